package packet_test

import (
	"bytes"
	"encoding/binary"
	"math"
	"math/rand/v2"
	"slices"
	"testing"

	"ephemeris/api"
	"ephemeris/packet"
)

// parsedFields is what has to come of the bytes behind a head, with so many fields read before, field behind field.
func parsedFields(b []byte, before int) ([]api.Ext, []byte, api.Errno) {
	if len(b) == 0 || len(b) == 12 {
		return nil, b, api.OK
	}
	if len(b) < 16 {
		return nil, nil, api.ErrShort
	}
	length := 256*int(b[2]) + int(b[3])
	switch {
	case length < 16 || length%4 > 0 || length > 468:
		return nil, nil, api.ErrForm
	case length > len(b):
		return nil, nil, api.ErrShort
	case before == 8:
		return nil, nil, api.ErrFull
	}
	l, left, e := parsedFields(b[length:], before+1)
	if e != api.OK {
		return nil, nil, e
	}
	first := api.Ext{Type: 256*uint16(b[0]) + uint16(b[1]), Data: b[4:length]}
	return append([]api.Ext{first}, l...), left, api.OK
}

// parsed is what has to come of bytes, as P7.2 tells it.
func parsed(b []byte) (api.Packet, api.Errno) {
	switch {
	case len(b) > 512:
		return api.Packet{}, api.ErrLong
	case len(b) < 48:
		return api.Packet{}, api.ErrShort
	case b[0]/8%8 < 1 || b[0]/8%8 > 4:
		return api.Packet{}, api.ErrForm
	}
	l, left, e := parsedFields(b[48:], 0)
	if e != api.OK {
		return api.Packet{}, e
	}
	short, long := binary.BigEndian.Uint32, binary.BigEndian.Uint64
	p := api.Packet{
		Leap: b[0] / 64, Version: b[0] / 8 % 8, Mode: b[0] % 8, Stratum: b[1], Poll: int8(b[2]), Prec: int8(b[3]),
		Delay: short(b[4:]), Disp: short(b[8:]), RefId: short(b[12:]),
		Ref: long(b[16:]), Org: long(b[24:]), Rec: long(b[32:]), Xmt: long(b[40:]),
		Exts: l,
	}
	if len(left) == 0 {
		return p, api.OK
	}
	if bytes.Equal(left[:4], make([]byte, 4)) {
		return api.Packet{}, api.ErrForm
	}
	return sealed(p, short(left), long(left[4:])), api.OK
}

// checkParse holds one call of Parse against what has to come of it; what is told is new memory, and leads back.
func checkParse(t *testing.T, b []byte) api.Errno {
	t.Helper()
	given := slices.Clone(b)
	right, want := parsed(slices.Clone(b))
	p, e := packet.Parse(given)
	if e != want || !same(p, right) || !bytes.Equal(given, b) {
		t.Fatalf("Parse(%x) = %v, %d; want %v, %d; and left %x", b, p, e, right, want, given)
	}
	if e != api.OK {
		return e
	}
	if back, e := packet.Put(p); !bytes.Equal(back, b) || e != api.OK || !packet.May(p) {
		t.Fatalf("Parse(%x) leads back to %x, %d", b, back, e)
	}
	checkMemory(t, p, [][]byte{given})
	return api.OK
}

// start is the bytes of a head that may be.
func start() []byte {
	return append([]byte{0x23, 2, 6, 0xec}, bytes.Repeat([]byte{0x5a}, 44)...)
}

// field is the bytes of a field that has so many in all, and says so.
func field(length int) []byte {
	b := []byte{1, 2, byte(length / 256), byte(length % 256)}
	return append(b, bytes.Repeat([]byte{0xa5}, length-4)...)
}

// sealBytes are those that may stand behind a packet's body.
func sealBytes() []byte {
	return []byte{0, 0, 0, 7, 1, 2, 3, 4, 5, 6, 7, 8}
}

// P7.4: Parse of what Put tells is the packet.
func TestBack(t *testing.T) {
	for _, p := range fitting() {
		b, e := packet.Put(p)
		if e != api.OK {
			t.Fatalf("Put(%v): %d", p, e)
		}
		if back, e := packet.Parse(b); !same(back, p) || !packet.Same(back, p) || e != api.OK {
			t.Fatalf("Put(%v) leads back to %v, %d", p, back, e)
		}
		checkParse(t, b)
	}
}

// P7.2: the chapter's examples.
func TestParseExamples(t *testing.T) {
	first := append([]byte{35}, make([]byte, 47)...)
	client := api.Packet{Version: 4, Mode: 3}
	for _, c := range []struct {
		behind []byte
		p      api.Packet
		e      api.Errno
	}{
		{nil, client, api.OK},
		{[]byte{0, 0, 0, 7, 8, 7, 6, 5, 4, 3, 2, 1}, sealed(client, 7, 0x0807060504030201), api.OK},
		{make([]byte, 12), api.Packet{}, api.ErrForm},
		{make([]byte, 8), api.Packet{}, api.ErrShort},
	} {
		b := slices.Concat(first, c.behind)
		if p, e := packet.Parse(b); !same(p, c.p) || e != c.e {
			t.Errorf("Parse(%x) = %v, %d; want %v, %d", b, p, e, c.p, c.e)
		}
		checkParse(t, b)
	}
}

// P7.2: each error, alone and before those that come behind it, written out.
func TestParseRefused(t *testing.T) {
	noVersion, versionFive := start(), start()
	noVersion[0], versionFive[0] = 0x03, 0x2b
	zeros := make([]byte, 12)
	nine := bytes.Repeat(field(16), 9)
	wrongLength := append([]byte{1, 2, 0, 12}, make([]byte, 12)...)
	for _, c := range []struct {
		name string
		b    []byte
		e    api.Errno
	}{
		{"nothing", nil, api.ErrShort},
		{"no bytes", []byte{}, api.ErrShort},
		{"a byte less than a head", start()[:47], api.ErrShort},
		{"a byte less than a head, of no Version", noVersion[:47], api.ErrShort},
		{"Version 0", noVersion, api.ErrForm},
		{"Version 5", versionFive, api.ErrForm},
		{"Version 0, then a byte", append(noVersion, 1), api.ErrForm},
		{"Version 5, then nine fields", slices.Concat(versionFive, nine), api.ErrForm},
		{"Version 0, then a Key of 0", slices.Concat(noVersion, zeros), api.ErrForm},
		{"a byte behind the head", append(start(), 1), api.ErrShort},
		{"11 bytes behind the head", slices.Concat(start(), sealBytes()[:11]), api.ErrShort},
		{"13 bytes behind the head", slices.Concat(start(), sealBytes(), []byte{1}), api.ErrShort},
		{"15 zeros behind the head", slices.Concat(start(), make([]byte, 15)), api.ErrShort},
		{"16 zeros behind the head", slices.Concat(start(), make([]byte, 16)), api.ErrForm},
		{"a field of 12 bytes", slices.Concat(start(), wrongLength), api.ErrForm},
		{"a field of 18 bytes", slices.Concat(start(), field(18)), api.ErrForm},
		{"a field that has not all of its bytes", slices.Concat(start(), field(20)[:16]), api.ErrShort},
		{"a field that says that it has 472 bytes", slices.Concat(start(), []byte{1, 2, 0x01, 0xd8}, make([]byte, 460)), api.ErrForm},
		{"a field that says that it has 468 bytes, in 464", slices.Concat(start(), []byte{1, 2, 0x01, 0xd4}, make([]byte, 460)), api.ErrShort},
		{"nine fields", slices.Concat(start(), nine), api.ErrFull},
		{"nine fields, signed", slices.Concat(start(), nine, sealBytes()), api.ErrFull},
		{"nine fields, then a Key of 0", slices.Concat(start(), nine, zeros), api.ErrFull},
		{"eight fields, then one of a wrong length", slices.Concat(start(), nine[:128], wrongLength), api.ErrForm},
		{"eight fields, then a byte", slices.Concat(start(), nine[:128], []byte{9}), api.ErrShort},
		{"eight fields, then a Key of 0", slices.Concat(start(), nine[:128], zeros), api.ErrForm},
		{"a field of a wrong length, then a Key of 0", slices.Concat(start(), wrongLength, zeros), api.ErrForm},
		{"a field, then a Key of 0", slices.Concat(start(), field(16), zeros), api.ErrForm},
		{"a Key of 0", slices.Concat(start(), zeros), api.ErrForm},
		{"a Key of 0 twice", slices.Concat(start(), zeros, zeros), api.ErrForm},
		{"a seal, then a byte", slices.Concat(start(), field(16), sealBytes(), []byte{0}), api.ErrShort},
		{"513 zeros", make([]byte, 513), api.ErrLong},
	} {
		if p, e := packet.Parse(c.b); !same(p, api.Packet{}) || e != c.e {
			t.Errorf("%s: Parse(%x) = %v, %d; want %d", c.name, c.b, p, e, c.e)
		}
		checkParse(t, c.b)
	}
}

// P7.2: MaxPacket bytes may be, signed and not; one more is ErrLong, whatever stands in them.
func TestParseLong(t *testing.T) {
	for _, whole := range [][]byte{
		slices.Concat(start(), field(464)),
		slices.Concat(start(), field(452), sealBytes()),
		slices.Concat(start(), bytes.Repeat(field(56), 7), field(72)),
		slices.Concat(start(), bytes.Repeat(field(56), 7), field(60), sealBytes()),
	} {
		if len(whole) != 512 {
			t.Fatalf("%d bytes", len(whole))
		}
		if e := checkParse(t, whole); e != api.OK {
			t.Errorf("Parse(%x): %d", whole, e)
		}
	}
	for _, long := range [][]byte{
		make([]byte, 513), bytes.Repeat([]byte{0x23}, 513), append(slices.Concat(start(), field(464)), 0),
		slices.Concat(start(), field(468)), slices.Concat(start(), field(456), sealBytes()), slices.Concat(start(), field(464), sealBytes()),
		slices.Concat(start(), bytes.Repeat(field(56), 9)), slices.Concat(start(), field(456), make([]byte, 12)), slices.Concat(start(), bytes.Repeat(field(468), 8)),
		append([]byte{0x03}, make([]byte, 512)...), make([]byte, 1024), make([]byte, 65536+100),
	} {
		if e := checkParse(t, long); e != api.ErrLong {
			t.Errorf("Parse(%x): %d", long, e)
		}
	}
}

// P7.2: of 12 bytes that are left the first four are the Key, each bit of them; all 0 they are ErrForm, whatever the Tag.
func TestParseSeal(t *testing.T) {
	for _, before := range [][]byte{start(), slices.Concat(start(), field(16)), slices.Concat(start(), bytes.Repeat(field(20), 8)), slices.Concat(start(), field(452))} {
		checkSeal := func(key uint32, tag uint64) {
			b := binary.BigEndian.AppendUint64(binary.BigEndian.AppendUint32(slices.Clone(before), key), tag)
			p, e := packet.Parse(b)
			if key == 0 && (e != api.ErrForm || !same(p, api.Packet{})) || key > 0 && (e != api.OK || !p.Signed || p.Key != key || p.Tag != tag) {
				t.Fatalf("Parse(%x) = %v, %d", b, p, e)
			}
			checkParse(t, b)
		}
		for _, tag := range []uint64{0, 1, 1 << 32, 1 << 63, 0x0102030405060708, math.MaxUint64} {
			checkSeal(0, tag)
			checkSeal(math.MaxUint32, tag)
			for bit := range 32 {
				checkSeal(1<<bit, tag)
			}
			for at := range 4 {
				for n := range uint32(256) {
					checkSeal(n<<(8*at), tag)
				}
			}
		}
		for bit := range 64 {
			checkSeal(0, 1<<bit)
			checkSeal(1, 1<<bit)
		}
		if e := checkParse(t, before); e != api.OK {
			t.Fatalf("Parse(%x): %d", before, e)
		}
	}
}

// P7.2: any number of bytes, of packets that are cut off, or go on.
func TestParseCut(t *testing.T) {
	for _, whole := range [][]byte{
		slices.Concat(start(), field(464)), slices.Concat(start(), field(16), sealBytes()), slices.Concat(start(), bytes.Repeat(field(16), 10)),
		slices.Concat(start(), field(28), field(16), field(40), sealBytes()), bytes.Repeat([]byte{0x23}, 600), make([]byte, 600), slices.Concat(start(), make([]byte, 500)),
	} {
		for n := range len(whole) + 1 {
			checkParse(t, whole[:n])
		}
		for first := range 256 {
			b := slices.Clone(whole[:min(len(whole), 512)])
			b[0] = byte(first)
			checkParse(t, b)
			checkParse(t, b[:48])
			checkParse(t, b[:47])
		}
	}
}

// changed is the bytes with one of them otherwise, some gone, or some more.
func changed(chance *rand.Rand, b []byte) []byte {
	if len(b) == 0 {
		return b
	}
	switch at := chance.IntN(len(b)); chance.IntN(5) {
	case 0:
		b[at] = byte(chance.Uint32())
	case 1:
		return b[:at]
	case 2:
		return slices.Delete(b, at, min(len(b), at+4*(1+chance.IntN(3))))
	case 3:
		return slices.Insert(b, at, make([]byte, chance.IntN(20))...)
	default:
		return append(b, make([]byte, 4*chance.IntN(5))...)
	}
	return b
}

// P7.2, P7.4: any bytes, many of them packets with something changed, answer as they have to, and lead back.
func TestParseAny(t *testing.T) {
	chance := rand.New(rand.NewPCG(47, 256))
	of := packets()
	seen := map[api.Errno]int{}
	for range 40000 {
		b := want(of[chance.IntN(len(of))])
		for range chance.IntN(3) {
			b = changed(chance, b)
		}
		seen[checkParse(t, b)]++
	}
	for range 5000 {
		lengths := make([]int, 7+chance.IntN(4))
		for i := range lengths {
			lengths[i] = 12 + 4*chance.IntN(3)
		}
		b := want(some(chance, lengths...))
		if chance.IntN(2) > 0 {
			b = append(b, make([]byte, 12)...)
		}
		seen[checkParse(t, changed(chance, b))]++
	}
	for n := range 600 {
		seen[checkParse(t, someBytes(chance, n))]++
	}
	for _, e := range []api.Errno{api.OK, api.ErrLong, api.ErrShort, api.ErrForm, api.ErrFull} {
		if seen[e] < 500 {
			t.Errorf("answers that were seen: %v", seen)
		}
	}
	if len(seen) != 5 {
		t.Errorf("answers that were seen: %v", seen)
	}
}
