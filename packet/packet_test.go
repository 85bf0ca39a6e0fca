package packet_test

import (
	"bytes"
	"encoding/binary"
	"math"
	"math/rand/v2"
	"reflect"
	"slices"
	"testing"

	"ephemeris/api"
	"ephemeris/packet"
)

// may is whether the packet may be, each number looked up in the list of all that may.
func may(p api.Packet) bool {
	is := slices.Contains([]byte{0, 1, 2, 3}, p.Leap) && slices.Contains([]byte{1, 2, 3, 4}, p.Version) && p.Mode < 8 && len(p.Exts) < 9
	for _, f := range p.Exts {
		n := len(f.Data)
		is = is && n > 11 && n < 465 && n%4 == 0
	}
	if p.Signed {
		return is && p.Key > 0
	}
	return is && p.Key == 0 && p.Tag == 0
}

// body is the bytes of the packet's head, and of its fields, number by number.
func body(p api.Packet) []byte {
	b := []byte{64*p.Leap + 8*p.Version + p.Mode, p.Stratum, byte(p.Poll), byte(p.Prec)}
	for _, n := range []uint32{p.Delay, p.Disp, p.RefId} {
		b = binary.BigEndian.AppendUint32(b, n)
	}
	for _, n := range []uint64{p.Ref, p.Org, p.Rec, p.Xmt} {
		b = binary.BigEndian.AppendUint64(b, n)
	}
	for _, f := range p.Exts {
		b = binary.BigEndian.AppendUint16(b, f.Type)
		b = binary.BigEndian.AppendUint16(b, uint16(len(f.Data)+4))
		b = append(b, f.Data...)
	}
	return b
}

// want is all of the packet's bytes.
func want(p api.Packet) []byte {
	b := body(p)
	if p.Signed {
		b = binary.BigEndian.AppendUint32(b, p.Key)
		b = binary.BigEndian.AppendUint64(b, p.Tag)
	}
	return b
}

// same is whether both packets have all the same, where no fields and nil are one.
func same(p, q api.Packet) bool {
	l, m := p.Exts, q.Exts
	p.Exts, q.Exts = nil, nil
	return reflect.DeepEqual(p, q) && slices.EqualFunc(l, m, func(f, g api.Ext) bool {
		return f.Type == g.Type && string(f.Data) == string(g.Data)
	})
}

// cloned is the same packet in new memory.
func cloned(p api.Packet) api.Packet {
	l := p.Exts
	p.Exts = nil
	for _, f := range l {
		p.Exts = append(p.Exts, api.Ext{Type: f.Type, Data: slices.Clone(f.Data)})
	}
	return p
}

// spoil changes bytes that were answered, and what stands behind them in their memory.
func spoil(b []byte) {
	for i := range b[:cap(b)] {
		b[:cap(b)][i] ^= 0xff
	}
}

// checkMemory tells of a packet, if it shares memory with what was handed in, or one field of it with another.
func checkMemory(t *testing.T, p api.Packet, given [][]byte) {
	t.Helper()
	was := cloned(p)
	for _, b := range given {
		spoil(b)
	}
	if !same(p, was) {
		t.Fatalf("%v kept what was handed in: %v", was, p)
	}
	for _, b := range given {
		spoil(b)
	}
	for i := range p.Exts {
		spoil(p.Exts[i].Data)
		for j := i + 1; j < len(p.Exts); j++ {
			if !bytes.Equal(p.Exts[j].Data, was.Exts[j].Data) {
				t.Fatalf("fields %d and %d of %v share memory", i, j, was)
			}
		}
	}
}

// someBytes are so many bytes of chance.
func someBytes(chance *rand.Rand, n int) []byte {
	b := make([]byte, n)
	for i := range b {
		b[i] = byte(chance.Uint32())
	}
	return b
}

// fields are fields of chance with data of these lengths.
func fields(chance *rand.Rand, lengths ...int) []api.Ext {
	var l []api.Ext
	for _, n := range lengths {
		l = append(l, api.Ext{Type: uint16(chance.Uint32()), Data: someBytes(chance, n)})
	}
	return l
}

// some is a packet of chance, with fields of these lengths, that is not signed.
func some(chance *rand.Rand, lengths ...int) api.Packet {
	return api.Packet{
		Leap: byte(chance.IntN(4)), Version: byte(1 + chance.IntN(4)), Mode: byte(chance.IntN(8)), Stratum: byte(chance.Uint32()),
		Poll: int8(chance.Uint32()), Prec: int8(chance.Uint32()), Delay: chance.Uint32(), Disp: chance.Uint32(), RefId: chance.Uint32(),
		Ref: chance.Uint64(), Org: chance.Uint64(), Rec: chance.Uint64(), Xmt: chance.Uint64(),
		Exts: fields(chance, lengths...),
	}
}

// sealed is the packet with that Key and that Tag, be they right or not.
func sealed(p api.Packet, key uint32, tag uint64) api.Packet {
	p.Signed, p.Key, p.Tag = true, key, tag
	return p
}

// chanceSeal is the packet with a Key that is not 0, and a Tag, of chance.
func chanceSeal(chance *rand.Rand, p api.Packet) api.Packet {
	return sealed(p, max(1, chance.Uint32()), chance.Uint64())
}

// rows are fields' lengths: none, one of each length, as many as may be, chance; the same ones in every run.
func rows() [][]int {
	list := [][]int{nil}
	for n := 12; n <= 464; n += 4 {
		list = append(list, []int{n})
	}
	for many := 2; many <= 8; many++ {
		for _, n := range []int{12, 16, 28, 52, 56, 60, 464} {
			list = append(list, slices.Repeat([]int{n}, many))
		}
	}
	list = append(list,
		[]int{12, 448}, []int{12, 436}, []int{16, 436}, []int{448, 12}, []int{12, 452}, []int{464, 12},
		[]int{52, 52, 52, 52, 52, 52, 52, 68}, []int{52, 52, 52, 52, 52, 52, 52, 56}, []int{52, 52, 52, 52, 52, 52, 52, 60}, []int{52, 52, 52, 52, 52, 52, 52, 72})
	chance := rand.New(rand.NewPCG(41, 256))
	for range 200 {
		lengths := make([]int, chance.IntN(9))
		for i := range lengths {
			lengths[i] = 12 + 4*chance.IntN(114>>chance.IntN(6))
		}
		list = append(list, lengths)
	}
	return list
}

// packets are such as may be, signed and not, of any length; the same ones in every run.
func packets() []api.Packet {
	chance := rand.New(rand.NewPCG(42, 256))
	list := []api.Packet{{Version: 1}, {Version: 4, Mode: 3}, {Leap: 3, Version: 4, Mode: 7}, {Version: 4, Exts: []api.Ext{}}}
	for _, key := range []uint32{1, 2, 255, 256, 1 << 16, 1 << 24, 1 << 31, math.MaxInt32, math.MaxUint32} {
		for _, tag := range []uint64{0, 1, 256, 1 << 32, 1 << 56, 1 << 63, math.MaxUint64} {
			list = append(list, sealed(some(chance), key, tag), sealed(some(chance, 12), key, tag))
		}
	}
	for _, lengths := range rows() {
		list = append(list, some(chance, lengths...), chanceSeal(chance, some(chance, lengths...)))
	}
	return list
}

// fitting are those of the packets that have no more bytes than may be; great the others.
func fitting() []api.Packet {
	return slices.DeleteFunc(packets(), func(p api.Packet) bool { return len(want(p)) > 512 })
}

// great are those of the packets that have more bytes than may be.
func great() []api.Packet {
	return slices.DeleteFunc(packets(), func(p api.Packet) bool { return len(want(p)) <= 512 })
}

// fault makes a packet one that may not be; seal is whether that is for what it is signed with alone.
type fault struct {
	name string
	seal bool
	make func(p *api.Packet)
}

// faults are all kinds of what of a packet may not be.
func faults() []fault {
	long := func(n int) api.Ext { return api.Ext{Type: 5, Data: make([]byte, n)} }
	return []fault{
		{"Leap 4", false, func(p *api.Packet) { p.Leap = 4 }},
		{"Leap 255", false, func(p *api.Packet) { p.Leap = 255 }},
		{"Version 0", false, func(p *api.Packet) { p.Version = 0 }},
		{"Version 5", false, func(p *api.Packet) { p.Version = 5 }},
		{"Version 12", false, func(p *api.Packet) { p.Version = 12 }},
		{"Mode 8", false, func(p *api.Packet) { p.Mode = 8 }},
		{"Mode 255", false, func(p *api.Packet) { p.Mode = 255 }},
		{"no data", false, func(p *api.Packet) { p.Exts = []api.Ext{{}} }},
		{"8 bytes of data", false, func(p *api.Packet) { p.Exts = []api.Ext{long(8)} }},
		{"13 bytes of data", false, func(p *api.Packet) { p.Exts = []api.Ext{long(13)} }},
		{"466 bytes of data", false, func(p *api.Packet) { p.Exts = []api.Ext{long(466)} }},
		{"468 bytes of data", false, func(p *api.Packet) { p.Exts = []api.Ext{long(468)} }},
		{"the last data too short", false, func(p *api.Packet) { p.Exts = []api.Ext{long(12), long(16), long(4)} }},
		{"9 fields", false, func(p *api.Packet) { p.Exts = slices.Repeat([]api.Ext{long(12)}, 9) }},
		{"9 great fields", false, func(p *api.Packet) { p.Exts = slices.Repeat([]api.Ext{long(464)}, 9) }},
		{"100 fields", false, func(p *api.Packet) { p.Exts = slices.Repeat([]api.Ext{long(12)}, 100) }},
		{"signed with Key 0", true, func(p *api.Packet) { p.Signed, p.Key = true, 0 }},
		{"signed with Key 0 and Tag 0", true, func(p *api.Packet) { p.Signed, p.Key, p.Tag = true, 0, 0 }},
		{"not signed with Key 1", true, func(p *api.Packet) { p.Signed, p.Key, p.Tag = false, 1, 0 }},
		{"not signed with the greatest Key", true, func(p *api.Packet) { p.Signed, p.Key, p.Tag = false, math.MaxUint32, 0 }},
		{"not signed with Tag 1", true, func(p *api.Packet) { p.Signed, p.Key, p.Tag = false, 0, 1 }},
		{"not signed with the greatest Tag", true, func(p *api.Packet) { p.Signed, p.Key, p.Tag = false, 0, math.MaxUint64 }},
		{"not signed with Key and Tag", true, func(p *api.Packet) { p.Signed, p.Key, p.Tag = false, 7, 7 }},
	}
}

// checkFaulty hands packets that may not be to check: each fault alone and with each other, of packets that fit and of great ones.
func checkFaulty(check func(p api.Packet)) {
	of := slices.Concat(fitting()[:20], fitting()[300:310], great()[:10])
	for _, p := range of {
		for _, f := range faults() {
			q := cloned(p)
			f.make(&q)
			check(q)
			for _, g := range faults() {
				r := cloned(q)
				g.make(&r)
				check(r)
			}
		}
	}
}

// P7.1: what is listed as a packet that may be is one, also if it would have too many bytes; both kinds are there.
func TestMay(t *testing.T) {
	if len(fitting()) < 400 || len(great()) < 100 {
		t.Fatalf("%d packets that fit, %d that do not", len(fitting()), len(great()))
	}
	for _, p := range packets() {
		given := cloned(p)
		if !may(p) || !packet.May(given) || !same(given, p) {
			t.Fatalf("May(%v) = false, or left %v", p, given)
		}
	}
}

// P7.1: with one fault or two a packet may not be.
func TestMayNot(t *testing.T) {
	checkFaulty(func(p api.Packet) {
		given := cloned(p)
		if may(p) || packet.May(given) || !same(given, p) {
			t.Fatalf("May(%v) = true, or left %v", p, given)
		}
	})
}

// P7.1: each Leap, Version and Mode, signed and not, with fields and without.
func TestMayHead(t *testing.T) {
	chance := rand.New(rand.NewPCG(43, 256))
	for first := range 256 {
		for _, other := range []byte{0, 1, 3, 4, 5, 7, 8, 255} {
			for _, of := range []api.Packet{
				{Leap: byte(first), Version: other, Mode: 3}, {Leap: byte(first), Version: 4, Mode: other},
				{Leap: 0, Version: byte(first), Mode: other}, {Leap: other, Version: byte(first), Mode: 4},
				{Leap: other, Version: 1, Mode: byte(first)}, {Leap: 3, Version: other, Mode: byte(first)},
			} {
				for _, p := range []api.Packet{of, sealed(of, 1, 0)} {
					p.Exts = fields(chance, slices.Repeat([]int{12}, chance.IntN(9))...)
					if packet.May(p) != may(p) {
						t.Fatalf("May(%v) = %t", p, packet.May(p))
					}
				}
			}
		}
	}
}

// P7.1: each length of a field's data, and any number of fields, signed and not.
func TestMayFields(t *testing.T) {
	for n := range 600 {
		for _, l := range [][]api.Ext{{{Data: make([]byte, n)}}, {{Data: make([]byte, 12)}, {Data: make([]byte, n)}}, slices.Repeat([]api.Ext{{Data: make([]byte, 464)}}, n)} {
			for _, p := range []api.Packet{{Version: 4, Exts: l}, sealed(api.Packet{Version: 4, Exts: l}, 9, 9)} {
				if packet.May(p) != may(p) {
					t.Fatalf("May(%v) = %t", p, packet.May(p))
				}
			}
		}
	}
}

// P7.1: signed a packet has any Key but 0, and any Tag; else neither, not even one bit.
func TestMaySeal(t *testing.T) {
	checkMay := func(p api.Packet, right bool) {
		t.Helper()
		if packet.May(p) != right {
			t.Errorf("May(%v) = %t", p, !right)
		}
	}
	of := api.Packet{Version: 4, Mode: 3}
	checkMay(of, true)
	for bit := range 64 {
		if bit < 32 {
			checkMay(api.Packet{Version: 4, Key: 1 << bit}, false)
			checkMay(api.Packet{Version: 4, Key: 1 << bit, Tag: 1 << bit}, false)
			checkMay(sealed(of, 1<<bit, 0), true)
			checkMay(sealed(of, 1<<bit, 1<<bit), true)
		}
		checkMay(api.Packet{Version: 4, Tag: 1 << bit}, false)
		checkMay(sealed(of, 0, 1<<bit), false)
		checkMay(sealed(of, math.MaxUint32, 1<<bit), true)
	}
	checkMay(sealed(of, 0, 0), false)
	checkMay(sealed(of, 0, math.MaxUint64), false)
	checkMay(sealed(of, math.MaxUint32, math.MaxUint64), true)
	checkMay(api.Packet{}, false)
	checkMay(api.Packet{Signed: true}, false)
}

// checkSame holds Same of two packets, both ways about, against what it has to be.
func checkSame(t *testing.T, p, q api.Packet, right bool) {
	t.Helper()
	a, b := cloned(p), cloned(q)
	if packet.Same(a, b) != right || packet.Same(b, a) != right || !same(a, p) || !same(b, q) {
		t.Fatalf("Same(%v, %v) = %t; want %t; and left %v, %v", p, q, packet.Same(p, q), right, a, b)
	}
}

// P7.1: a packet is the same as itself in other memory, and no other is, be they such that may be or not.
func TestSame(t *testing.T) {
	list := slices.Concat(packets()[:30], packets()[len(packets())-30:], []api.Packet{{}, {Leap: 9}, {Signed: true}, {Key: 5}, {Tag: 5}, {Exts: make([]api.Ext, 12)}})
	for i, p := range list {
		for j, q := range list {
			checkSame(t, p, q, i == j || same(p, q))
		}
	}
	for _, p := range packets() {
		checkSame(t, p, p, true)
	}
}

// P7.1: each bit of each number tells, and whether it is signed.
func TestSameNumbers(t *testing.T) {
	chance := rand.New(rand.NewPCG(44, 256))
	for _, p := range []api.Packet{{}, {Version: 4, Mode: 3}, some(chance, 12), chanceSeal(chance, some(chance)), chanceSeal(chance, some(chance, 16, 20)), {Leap: 200, Key: 7, Tag: 9}} {
		of := reflect.ValueOf(p)
		for i := range of.NumField() {
			name := of.Type().Field(i).Name
			for bit := range 64 {
				q := cloned(p)
				switch f := reflect.ValueOf(&q).Elem().Field(i); {
				case f.CanUint():
					f.SetUint((f.Uint() ^ 1<<bit) & (math.MaxUint64 >> (64 - f.Type().Bits())))
				case f.CanInt():
					f.SetInt(int64(int8(f.Int() ^ 1<<(bit%8))))
				case f.Kind() == reflect.Bool:
					f.SetBool(!f.Bool())
				case name != "Exts":
					t.Fatalf("field %s", name)
				}
				checkSame(t, p, q, same(p, q))
			}
		}
	}
	for _, c := range [][2]api.Packet{
		{{Key: 1}, {Tag: 1}}, {{Signed: true}, {Key: 1}}, {{Signed: true}, {}}, {{Version: 1}, {Key: 1}},
		{{Version: 8}, {Leap: 1}}, {{Ref: 1}, {Org: 1}}, {{Rec: 1}, {Xmt: 1}},
	} {
		checkSame(t, c[0], c[1], false)
	}
}

// P7.1: each field's Type and data tell, their number and their order; no fields are nil.
func TestSameFields(t *testing.T) {
	chance := rand.New(rand.NewPCG(45, 256))
	for _, p := range []api.Packet{some(chance, 12), some(chance, 12, 16, 12), chanceSeal(chance, some(chance, 464)), some(chance, 3, 5), chanceSeal(chance, some(chance, slices.Repeat([]int{12}, 10)...))} {
		for i := range p.Exts {
			q := cloned(p)
			q.Exts[i].Type ^= 1 << chance.IntN(16)
			checkSame(t, p, q, false)
			for at := range p.Exts[i].Data {
				q = cloned(p)
				q.Exts[i].Data[at] ^= 1 << chance.IntN(8)
				checkSame(t, p, q, false)
			}
			q = cloned(p)
			q.Exts = slices.Delete(q.Exts, i, i+1)
			checkSame(t, p, q, false)
			q = cloned(p)
			q.Exts = append(q.Exts[i:], q.Exts[:i]...)
			checkSame(t, p, q, i == 0)
		}
	}
	if !packet.Same(api.Packet{Exts: []api.Ext{}}, api.Packet{}) || !packet.Same(api.Packet{}, api.Packet{Exts: []api.Ext{}}) {
		t.Error("no fields and nil are two")
	}
}

// byHand is a packet, and what its bytes are.
type byHand struct {
	p api.Packet
	b []byte
}

// handMade are packets whose bytes are written out.
func handMade() []byHand {
	zeros := func(n int) []byte { return make([]byte, n) }
	start := slices.Concat([]byte{0x23}, zeros(47))
	twelve := []byte{1, 2, 3, 4, 5, 6, 7, 8, 9, 10, 11, 12}
	one := []api.Ext{{Type: 0x102, Data: twelve}}
	oneBytes := slices.Concat([]byte{1, 2, 0, 0x10}, twelve)
	client := api.Packet{Version: 4, Mode: 3}
	with := func(p api.Packet, l []api.Ext) api.Packet {
		p.Exts = l
		return p
	}
	return []byHand{
		{client, start},
		{sealed(client, 7, 0x0102030405060708), slices.Concat(start, []byte{0, 0, 0, 7, 1, 2, 3, 4, 5, 6, 7, 8})},
		{sealed(client, 1<<24, 0), slices.Concat(start, []byte{1, 0, 0, 0}, zeros(8))},
		{sealed(client, 1<<16, 1), slices.Concat(start, []byte{0, 1, 0, 0}, zeros(7), []byte{1})},
		{sealed(client, 1<<8, 1<<56), slices.Concat(start, []byte{0, 0, 1, 0, 1}, zeros(7))},
		{sealed(client, math.MaxUint32, math.MaxUint64), slices.Concat(start, bytes.Repeat([]byte{255}, 12))},
		{with(client, one), slices.Concat(start, oneBytes)},
		{with(sealed(client, 0x0a0b0c0d, 0xf1f2f3f4f5f6f7f8), one), slices.Concat(start, oneBytes, []byte{0xa, 0xb, 0xc, 0xd, 0xf1, 0xf2, 0xf3, 0xf4, 0xf5, 0xf6, 0xf7, 0xf8})},
		{with(client, []api.Ext{{Type: 0xfffe, Data: zeros(460)}}), slices.Concat(start, []byte{0xff, 0xfe, 1, 0xd0}, zeros(460))},
		{with(sealed(client, 1, 2), []api.Ext{{Type: 0xfffe, Data: zeros(448)}}), slices.Concat(start, []byte{0xff, 0xfe, 1, 0xc4}, zeros(448), []byte{0, 0, 0, 1, 0, 0, 0, 0, 0, 0, 0, 2})},
		{with(client, slices.Repeat(one, 8)), slices.Concat(start, bytes.Repeat(oneBytes, 8))},
		{with(sealed(client, 1, 2), slices.Repeat(one, 8)), slices.Concat(start, bytes.Repeat(oneBytes, 8), []byte{0, 0, 0, 1, 0, 0, 0, 0, 0, 0, 0, 2})},
		{
			api.Packet{
				Leap: 1, Version: 2, Mode: 5, Stratum: 0xa1, Poll: 0x12, Prec: -0x7f,
				Delay: 0x01020304, Disp: 0x05060708, RefId: 0x090a0b0c,
				Ref: 0x1112131415161718, Org: 0x2122232425262728, Rec: 0x3132333435363738, Xmt: 0x4142434445464748,
				Exts:   []api.Ext{{Type: 0x102, Data: twelve}, {Type: 0x304, Data: zeros(16)}},
				Signed: true, Key: 0x51525354, Tag: 0x6162636465666768,
			},
			slices.Concat([]byte{
				0x55, 0xa1, 0x12, 0x81, 1, 2, 3, 4, 5, 6, 7, 8, 9, 0xa, 0xb, 0xc,
				0x11, 0x12, 0x13, 0x14, 0x15, 0x16, 0x17, 0x18, 0x21, 0x22, 0x23, 0x24, 0x25, 0x26, 0x27, 0x28,
				0x31, 0x32, 0x33, 0x34, 0x35, 0x36, 0x37, 0x38, 0x41, 0x42, 0x43, 0x44, 0x45, 0x46, 0x47, 0x48,
			}, oneBytes, []byte{3, 4, 0, 0x14}, zeros(16), []byte{0x51, 0x52, 0x53, 0x54, 0x61, 0x62, 0x63, 0x64, 0x65, 0x66, 0x67, 0x68}),
		},
	}
}

// P7.2: packets and their bytes, written out by hand.
func TestByHand(t *testing.T) {
	for _, c := range handMade() {
		if b, e := packet.Put(c.p); !bytes.Equal(b, c.b) || e != api.OK {
			t.Errorf("Put(%v) = %x, %d; want %x", c.p, b, e, c.b)
		}
		if p, e := packet.Parse(c.b); !same(p, c.p) || e != api.OK {
			t.Errorf("Parse(%x) = %v, %d; want %v", c.b, p, e, c.p)
		}
	}
}

// P7.2: Put tells the packet's bytes, in new memory; what is handed in stays.
func TestPut(t *testing.T) {
	for _, p := range fitting() {
		given := cloned(p)
		b, e := packet.Put(given)
		if !bytes.Equal(b, want(p)) || e != api.OK {
			t.Fatalf("Put(%v) = %x, %d; want %x", p, b, e, want(p))
		}
		spoil(b)
		if !same(given, p) {
			t.Fatalf("Put(%v) left %v", p, given)
		}
		if again, _ := packet.Put(given); !bytes.Equal(again, want(p)) {
			t.Fatalf("Put(%v) told memory that is its own", p)
		}
	}
}

// checkPutRefused holds that the packet is refused with that error, and stays.
func checkPutRefused(t *testing.T, p api.Packet, e api.Errno) {
	t.Helper()
	given := cloned(p)
	if b, got := packet.Put(given); b != nil || got != e || !same(given, p) {
		t.Fatalf("Put(%v) = %x, %d; want %d; and left %v", p, b, got, e, given)
	}
}

// sized are fields' lengths, and how many bytes a packet of them has that is not signed; signed it has 12 more.
type sized struct {
	lengths []int
	many    int
}

// aboutMost are lengths of fields with which a packet has some bytes less than may be, just as many, or some more.
func aboutMost() []sized {
	sevenAnd := func(n int) []int { return append(slices.Repeat([]int{52}, 7), n) }
	return []sized{
		{[]int{444}, 496}, {[]int{448}, 500}, {[]int{452}, 504}, {[]int{460}, 512}, {[]int{464}, 516},
		{[]int{12, 428}, 496}, {[]int{12, 432}, 500}, {[]int{432, 16}, 504}, {[]int{12, 444}, 512}, {[]int{448, 12}, 516},
		{sevenAnd(52), 496}, {sevenAnd(56), 500}, {sevenAnd(60), 504}, {sevenAnd(68), 512}, {sevenAnd(72), 516},
		{slices.Repeat([]int{464}, 8), 3792},
	}
}

// P7.2: more than MaxPacket bytes are ErrLong, signed and not; just as many are none too many.
func TestPutLong(t *testing.T) {
	chance := rand.New(rand.NewPCG(46, 256))
	for _, c := range aboutMost() {
		p := some(chance, c.lengths...)
		for _, q := range []api.Packet{p, chanceSeal(chance, p)} {
			many := c.many
			if q.Signed {
				many += 12
			}
			if many > 512 {
				checkPutRefused(t, q, api.ErrLong)
			} else if b, e := packet.Put(q); len(b) != many || e != api.OK {
				t.Errorf("Put(%v) = %x, %d; want %d bytes", q, b, e, many)
			}
		}
	}
	for _, p := range great() {
		checkPutRefused(t, p, api.ErrLong)
	}
}

// P7.2: what may not be is ErrArg, also if it would have more than MaxPacket bytes.
func TestPutMayNot(t *testing.T) {
	long := 0
	checkFaulty(func(p api.Packet) {
		checkPutRefused(t, p, api.ErrArg)
		if len(want(p)) > 512 {
			long++
		}
	})
	if long < 1000 {
		t.Errorf("%d that may not be and are too long", long)
	}
}
