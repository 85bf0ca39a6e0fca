package head_test

import (
	"bytes"
	"encoding/binary"
	"math"
	"math/rand/v2"
	"reflect"
	"slices"
	"testing"

	"ephemeris/api"
	"ephemeris/head"
)

// want is the head's bytes by sums and products, and by the library's own order of bytes.
func want(p api.Packet) []byte {
	b := []byte{p.Leap*64 + p.Version*8 + p.Mode, p.Stratum, below(p.Poll), below(p.Prec)}
	for _, n := range []uint32{p.Delay, p.Disp, p.RefId} {
		b = binary.BigEndian.AppendUint32(b, n)
	}
	for _, n := range []uint64{p.Ref, p.Org, p.Rec, p.Xmt} {
		b = binary.BigEndian.AppendUint64(b, n)
	}
	return b
}

// below is a signed byte: below 0 it is 256 more.
func below(n int8) byte {
	if n < 0 {
		return byte(int(n) + 256)
	}
	return byte(n)
}

// field is one of a head's, with how to set it to a number's lowest bits.
type field struct {
	name string
	bits int
	set  func(p *api.Packet, n uint64)
}

// fields are all of a head's, in the order in which they stand in a packet.
func fields() []field {
	return []field{
		{"Leap", 8, func(p *api.Packet, n uint64) { p.Leap = byte(n) }},
		{"Version", 8, func(p *api.Packet, n uint64) { p.Version = byte(n) }},
		{"Mode", 8, func(p *api.Packet, n uint64) { p.Mode = byte(n) }},
		{"Stratum", 8, func(p *api.Packet, n uint64) { p.Stratum = byte(n) }},
		{"Poll", 8, func(p *api.Packet, n uint64) { p.Poll = int8(n) }},
		{"Prec", 8, func(p *api.Packet, n uint64) { p.Prec = int8(n) }},
		{"Delay", 32, func(p *api.Packet, n uint64) { p.Delay = uint32(n) }},
		{"Disp", 32, func(p *api.Packet, n uint64) { p.Disp = uint32(n) }},
		{"RefId", 32, func(p *api.Packet, n uint64) { p.RefId = uint32(n) }},
		{"Ref", 64, func(p *api.Packet, n uint64) { p.Ref = n }},
		{"Org", 64, func(p *api.Packet, n uint64) { p.Org = n }},
		{"Rec", 64, func(p *api.Packet, n uint64) { p.Rec = n }},
		{"Xmt", 64, func(p *api.Packet, n uint64) { p.Xmt = n }},
	}
}

// may is whether so great a Leap, Version and Mode may be, each looked up in the list of all that may.
func may(leap, version, mode byte) bool {
	return slices.Contains([]byte{0, 1, 2, 3}, leap) && slices.Contains([]byte{1, 2, 3, 4}, version) && slices.Contains([]byte{0, 1, 2, 3, 4, 5, 6, 7}, mode)
}

// some is a head of chance that may be.
func some(chance *rand.Rand) api.Packet {
	var p api.Packet
	for _, f := range fields() {
		f.set(&p, chance.Uint64()>>chance.IntN(64))
	}
	p.Leap, p.Version, p.Mode = p.Leap%4, 1+p.Version%4, p.Mode%8
	return p
}

// heads are heads that may be: each first byte, each bit of each field alone, the signed bytes in full, chance; the same ones in every run.
func heads() []api.Packet {
	var list []api.Packet
	for first := range 128 {
		list = append(list, api.Packet{Leap: byte(first / 32), Version: byte(1 + first/8%4), Mode: byte(first % 8)})
	}
	for _, f := range fields()[3:] {
		for bit := range f.bits {
			for _, n := range []uint64{1 << bit, math.MaxUint64 >> bit, math.MaxUint64 << bit} {
				p := api.Packet{Version: 4}
				f.set(&p, n)
				list = append(list, p)
			}
		}
	}
	for n := -128; n <= 127; n++ {
		list = append(list, api.Packet{Version: 1, Poll: int8(n)}, api.Packet{Version: 1, Prec: int8(n)}, api.Packet{Version: 3, Poll: int8(n), Prec: int8(-1 - n)})
	}
	chance := rand.New(rand.NewPCG(8, 256))
	for range 1000 {
		list = append(list, some(chance))
	}
	return list
}

// dressed is the packet with all that is no head's.
func dressed(p api.Packet) api.Packet {
	p.Exts = []api.Ext{{Type: 0x102, Data: bytes.Repeat([]byte{7}, 12)}, {Type: 9, Data: []byte{1}}, {}}
	p.Signed, p.Key, p.Tag = true, 77, 1<<63+5
	return p
}

// checkDressed tells of a packet that was handed in and no longer is as it was dressed.
func checkDressed(t *testing.T, got, p api.Packet) {
	t.Helper()
	if !reflect.DeepEqual(got, dressed(p)) {
		t.Fatalf("what was handed in became %v", got)
	}
}

// P4.1: a head may be with a Leap of at most 3, a Version from 1 to 4 and a Mode of at most 7, whatever else it has.
func TestMay(t *testing.T) {
	for leap := range 256 {
		for version := range 256 {
			for _, mode := range []byte{0, 1, 2, 3, 4, 5, 6, 7, 8, 9, 15, 16, 64, 127, 128, 135, 247, 248, 255} {
				p := api.Packet{Leap: byte(leap), Version: byte(version), Mode: mode}
				if got := head.May(p); got != may(p.Leap, p.Version, p.Mode) {
					t.Fatalf("May of Leap %d, Version %d, Mode %d = %t", leap, version, mode, got)
				}
			}
		}
	}
	for mode := range 256 {
		if got := head.May(api.Packet{Version: 4, Mode: byte(mode)}); got != (mode <= 7) {
			t.Errorf("May of Mode %d = %t", mode, got)
		}
	}
	for _, f := range fields()[3:] {
		for _, n := range []uint64{1, 128, math.MaxUint64} {
			for _, version := range []byte{0, 1, 4, 5} {
				p := api.Packet{Version: version}
				f.set(&p, n)
				if got := head.May(p); got != (version == 1 || version == 4) {
					t.Errorf("May of Version %d and %s %x = %t", version, f.name, n, got)
				}
			}
		}
	}
}

// P4.1: what is no head's does not make it one that may not be, nor one that may.
func TestMayBeside(t *testing.T) {
	for _, p := range []api.Packet{{Version: 4, Mode: 3}, {Version: 1}, {}, {Leap: 4, Version: 4}, {Version: 5}, {Version: 4, Mode: 8}} {
		d := dressed(p)
		if head.May(d) != may(p.Leap, p.Version, p.Mode) {
			t.Errorf("May of %v = %t", d, head.May(d))
		}
		checkDressed(t, d, p)
	}
}

// P4.2: the chapter's examples and others, written out by hand.
func TestPutByHand(t *testing.T) {
	zeros := func(n int) []byte { return make([]byte, n) }
	for _, c := range []struct {
		p api.Packet
		b []byte
	}{
		{api.Packet{Version: 4, Mode: 3}, slices.Concat([]byte{0x23}, zeros(47))},
		{
			api.Packet{Leap: 3, Version: 4, Mode: 4, Poll: -6, RefId: 0x47505300},
			slices.Concat([]byte{0xe4, 0, 0xfa, 0}, zeros(8), []byte{0x47, 0x50, 0x53, 0}, zeros(32)),
		},
		{api.Packet{Version: 1}, slices.Concat([]byte{0x08}, zeros(47))},
		{api.Packet{Version: 4}, slices.Concat([]byte{0x20}, zeros(47))},
		{api.Packet{Version: 1, Mode: 7}, slices.Concat([]byte{0x0f}, zeros(47))},
		{api.Packet{Leap: 3, Version: 1}, slices.Concat([]byte{0xc8}, zeros(47))},
		{api.Packet{Leap: 3, Version: 4, Mode: 7}, slices.Concat([]byte{0xe7}, zeros(47))},
		{api.Packet{Version: 4, Poll: -128, Prec: 127}, slices.Concat([]byte{0x20, 0, 0x80, 0x7f}, zeros(44))},
		{api.Packet{Version: 4, Poll: 127, Prec: -128}, slices.Concat([]byte{0x20, 0, 0x7f, 0x80}, zeros(44))},
		{api.Packet{Version: 4, Poll: -1}, slices.Concat([]byte{0x20, 0, 0xff, 0}, zeros(44))},
		{api.Packet{Version: 4, Prec: -1}, slices.Concat([]byte{0x20, 0, 0, 0xff}, zeros(44))},
		{
			api.Packet{
				Leap: 1, Version: 2, Mode: 5, Stratum: 0xa1, Poll: 0x12, Prec: -0x7f,
				Delay: 0x01020304, Disp: 0x05060708, RefId: 0x090a0b0c,
				Ref: 0x1112131415161718, Org: 0x2122232425262728, Rec: 0x3132333435363738, Xmt: 0x4142434445464748,
			},
			[]byte{
				0x55, 0xa1, 0x12, 0x81, 1, 2, 3, 4, 5, 6, 7, 8, 9, 0xa, 0xb, 0xc,
				0x11, 0x12, 0x13, 0x14, 0x15, 0x16, 0x17, 0x18, 0x21, 0x22, 0x23, 0x24, 0x25, 0x26, 0x27, 0x28,
				0x31, 0x32, 0x33, 0x34, 0x35, 0x36, 0x37, 0x38, 0x41, 0x42, 0x43, 0x44, 0x45, 0x46, 0x47, 0x48,
			},
		},
	} {
		if b, e := head.Put(c.p); !bytes.Equal(b, c.b) || e != api.OK {
			t.Errorf("Put(%v) = %x, %d; want %x", c.p, b, e, c.b)
		}
		if p, rest, e := head.Parse(c.b); !reflect.DeepEqual(p, c.p) || len(rest) != 0 || e != api.OK {
			t.Errorf("Parse(%x) = %v, %x, %d; want %v", c.b, p, rest, e, c.p)
		}
	}
}

// P4.2: a field that is all ones has so many bytes of all ones, where it stands, and the others none.
func TestPutOnes(t *testing.T) {
	at := 1
	for _, f := range fields()[3:] {
		p := api.Packet{Version: 4}
		f.set(&p, math.MaxUint64)
		stands := make([]byte, 48)
		stands[0] = 0x20
		for range f.bits / 8 {
			stands[at] = 0xff
			at++
		}
		if b, e := head.Put(p); !bytes.Equal(b, stands) || e != api.OK {
			t.Errorf("Put of %s all ones = %x, %d; want %x", f.name, b, e, stands)
		}
	}
	if at != head.Size || head.Size != 48 {
		t.Errorf("%d bytes in all, Size %d", at, head.Size)
	}
}

// P4.2, P4.4: Put tells the head's bytes, in new memory, whatever else the packet has; Parse of them is the head, with nothing left.
func TestPut(t *testing.T) {
	for _, p := range heads() {
		d := dressed(p)
		b, e := head.Put(d)
		if !bytes.Equal(b, want(p)) || e != api.OK {
			t.Fatalf("Put(%v) = %x, %d; want %x", p, b, e, want(p))
		}
		back, rest, e := head.Parse(b)
		if !reflect.DeepEqual(back, p) || len(rest) != 0 || e != api.OK || !head.Same(back, d) {
			t.Fatalf("Put(%v) leads back to %v, %x, %d", p, back, rest, e)
		}
		for i := range b {
			b[i]++
		}
		if again, _ := head.Put(d); !bytes.Equal(again, want(p)) {
			t.Fatalf("Put(%v) told memory that is its own", p)
		}
		checkDressed(t, d, p)
	}
}

// P4.2: a Leap, Version or Mode that may not be, or several of them, is ErrArg, and no bytes; what is handed in stays.
func TestPutMayNot(t *testing.T) {
	chance := rand.New(rand.NewPCG(9, 256))
	bytesOf := []byte{0, 1, 2, 3, 4, 5, 6, 7, 8, 9, 16, 63, 64, 127, 128, 252, 255}
	refused := 0
	for _, leap := range bytesOf {
		for _, version := range bytesOf {
			for _, mode := range bytesOf {
				p := some(chance)
				p.Leap, p.Version, p.Mode = leap, version, mode
				if may(leap, version, mode) {
					continue
				}
				refused++
				d := dressed(p)
				if b, e := head.Put(d); b != nil || e != api.ErrArg {
					t.Fatalf("Put of Leap %d, Version %d, Mode %d = %x, %d", leap, version, mode, b, e)
				}
				checkDressed(t, d, p)
			}
		}
	}
	if refused == 0 {
		t.Error("no head that may not be")
	}
	for _, p := range []api.Packet{{}, {Mode: 3}, {Version: 5}, {Leap: 4, Version: 4}, {Version: 4, Mode: 8}, {Leap: 4, Version: 5, Mode: 8}} {
		if b, e := head.Put(p); b != nil || e != api.ErrArg {
			t.Errorf("Put(%v) = %x, %d", p, b, e)
		}
	}
}

// behinds are what may stand behind a head.
func behinds() [][]byte {
	list := [][]byte{nil, {}, {0}, {255}, {1, 2, 3}, bytes.Repeat([]byte{0x99}, 12), make([]byte, 48), bytes.Repeat([]byte{0x23}, 97)}
	all := make([]byte, 512)
	for i := range all {
		all[i] = byte(i * 7)
	}
	return append(list, all)
}

// checkParse holds one call of Parse of bytes, which are enough, against what has to come of it.
func checkParse(t *testing.T, b []byte) api.Errno {
	given := slices.Clone(b)
	p, rest, e := head.Parse(b)
	if version := given[0] / 8 % 8; version < 1 || version > 4 {
		if !reflect.DeepEqual(p, api.Packet{}) || rest != nil || e != api.ErrForm {
			t.Fatalf("Parse(%x) = %v, %x, %d", given, p, rest, e)
		}
		return e
	}
	if e != api.OK || !bytes.Equal(want(p), given[:48]) || !bytes.Equal(rest, given[48:]) {
		t.Fatalf("Parse(%x) = %v, %x, %d", given, p, rest, e)
	}
	if p.Exts != nil || p.Signed || p.Key != 0 || p.Tag != 0 || !head.May(p) {
		t.Fatalf("Parse(%x) = %v, which is more than a head", given, p)
	}
	if back, e := head.Put(p); !bytes.Equal(back, given[:48]) || e != api.OK {
		t.Fatalf("Parse(%x) leads back to %x, %d", given, back, e)
	}
	for i := range rest {
		rest[i]++
	}
	_ = append(rest, 1, 2, 3)
	if !bytes.Equal(b, given) {
		t.Fatalf("Parse(%x) shares its memory", given)
	}
	return e
}

// P4.3 to P4.5: any 48 bytes of a Version that may be are a head, which leads back to them, and what is behind is told as it is.
func TestParse(t *testing.T) {
	for _, p := range heads() {
		for _, behind := range behinds() {
			b := slices.Concat(want(p), behind)
			if e := checkParse(t, b); e != api.OK {
				t.Fatalf("Parse(%x): %d", b, e)
			}
			if got, _, _ := head.Parse(b); !reflect.DeepEqual(got, p) {
				t.Fatalf("Parse(%x) = %v; want %v", b, got, p)
			}
		}
	}
	seen := map[api.Errno]int{}
	chance := rand.New(rand.NewPCG(10, 256))
	for first := range 256 {
		for range 20 {
			b := make([]byte, 48+chance.IntN(20), 100)
			for i := range b {
				b[i] = byte(chance.Uint32())
			}
			b[0] = byte(first)
			seen[checkParse(t, b)]++
		}
	}
	if seen[api.OK] != seen[api.ErrForm] || seen[api.OK] != 128*20 {
		t.Errorf("answers that were seen: %v", seen)
	}
}

// P4.5: a byte of the head does not change what is left, nor a byte behind it the head.
func TestParseBehind(t *testing.T) {
	b := slices.Concat(want(api.Packet{Version: 4, Mode: 4, Xmt: 9}), []byte{1, 2, 3, 4})
	for i := range b {
		changed := slices.Clone(b)
		changed[i] ^= 1
		p, rest, e := head.Parse(changed)
		if e != api.OK || bytes.Equal(rest, b[48:]) != (i < 48) || head.Same(p, api.Packet{Version: 4, Mode: 4, Xmt: 9}) != (i >= 48) {
			t.Errorf("byte %d changed: %v, %x, %d", i, p, rest, e)
		}
	}
}

// P4.3: less than 48 bytes are ErrShort, whatever they say; a Version that may not be is ErrForm from 48 on.
func TestParseRefused(t *testing.T) {
	for first := range 256 {
		whole := bytes.Repeat([]byte{0xa5}, 60)
		whole[0] = byte(first)
		for n := range whole {
			version := first / 8 % 8
			e := api.OK
			if n < 48 {
				e = api.ErrShort
			} else if version == 0 || version > 4 {
				e = api.ErrForm
			}
			p, rest, got := head.Parse(whole[:n])
			if got != e {
				t.Fatalf("Parse of %d bytes, the first one %x: %d; want %d", n, first, got, e)
			}
			if e != api.OK && (!reflect.DeepEqual(p, api.Packet{}) || rest != nil) {
				t.Fatalf("Parse of %d bytes, the first one %x: %v, %x, %d", n, first, p, rest, e)
			}
		}
		if whole[0] != byte(first) || !bytes.Equal(whole[1:], bytes.Repeat([]byte{0xa5}, 59)) {
			t.Fatalf("what was handed in became %x", whole)
		}
	}
	for _, b := range [][]byte{nil, {}} {
		if p, rest, e := head.Parse(b); !reflect.DeepEqual(p, api.Packet{}) || rest != nil || e != api.ErrShort {
			t.Errorf("Parse(%v) = %v, %x, %d", b, p, rest, e)
		}
	}
}

// P4.1: heads are the same if each of their fields is, also if they may not be; each bit of each field tells.
func TestSame(t *testing.T) {
	of := []api.Packet{{}, {Version: 4, Mode: 3}, {Leap: 4, Version: 9, Mode: 200}}
	of = append(of, heads()[900:1100]...)
	for _, p := range of {
		if !head.Same(p, p) {
			t.Fatalf("Same(%v) as itself: false", p)
		}
		for _, f := range fields() {
			for bit := range f.bits {
				for _, n := range []uint64{1 << bit, math.MaxUint64 >> bit} {
					q, r := p, p
					f.set(&q, n)
					f.set(&r, n)
					alike := reflect.DeepEqual(p, q)
					if head.Same(p, q) != alike || head.Same(q, p) != alike || !head.Same(q, r) {
						t.Fatalf("Same(%v, %v) = %t", p, q, head.Same(p, q))
					}
				}
			}
		}
	}
}

// P4.1: heads that would stand in the same bits are not the same for that, and two fields that are changed about are two.
func TestSameByFields(t *testing.T) {
	for _, c := range [][2]api.Packet{
		{{Version: 8}, {Leap: 1}},
		{{Version: 4, Mode: 8}, {Version: 5}},
		{{Version: 4, Leap: 4}, {Version: 4}},
		{{Version: 4, Mode: 16}, {Version: 6}},
		{{Version: 4, Poll: 1}, {Version: 4, Prec: 1}},
		{{Version: 4, Delay: 1}, {Version: 4, Disp: 1}},
		{{Version: 4, Disp: 1}, {Version: 4, RefId: 1}},
		{{Version: 4, Ref: 1}, {Version: 4, Org: 1}},
		{{Version: 4, Rec: 1}, {Version: 4, Xmt: 1}},
		{{Version: 4, Ref: 1, Org: 2}, {Version: 4, Ref: 2, Org: 1}},
		{{Version: 4, Poll: -1}, {Version: 4, Poll: 1}},
	} {
		if head.Same(c[0], c[1]) || head.Same(c[1], c[0]) {
			t.Errorf("Same(%v, %v) = true", c[0], c[1])
		}
	}
}

// P4.1: what is no head's does not matter to Same, and stays.
func TestSameBeside(t *testing.T) {
	for _, p := range heads() {
		d := dressed(p)
		if !head.Same(p, d) || !head.Same(d, p) || !head.Same(d, dressed(p)) {
			t.Fatalf("Same(%v, %v) = false", p, d)
		}
		other := dressed(p)
		other.Xmt ^= 1
		if head.Same(d, other) {
			t.Fatalf("Same(%v, %v) = true", d, other)
		}
		checkDressed(t, d, p)
	}
	for _, q := range []api.Packet{{Signed: true}, {Key: 1}, {Tag: 1}, {Exts: []api.Ext{{}}}, {Exts: []api.Ext{}}} {
		if !head.Same(q, api.Packet{}) || !head.Same(api.Packet{}, q) {
			t.Errorf("Same(%v, nothing) = false", q)
		}
	}
}
