package ext_test

import (
	"bytes"
	"encoding/binary"
	"math/rand/v2"
	"slices"
	"testing"

	"ephemeris/api"
	"ephemeris/ext"
)

// spoil changes what was answered, and what stands behind it in its memory.
func spoil(b []byte) {
	for i := range b[:cap(b)] {
		b[:cap(b)][i] ^= 0xff
	}
}

// tails are what may be left behind fields: nothing, or 12 bytes, also such as look like a field's first ones.
func tails() [][]byte {
	return [][]byte{
		nil, {}, make([]byte, 12), bytes.Repeat([]byte{255}, 12),
		{1, 2, 0, 16, 1, 2, 3, 4, 5, 6, 7, 8}, {0, 0, 0, 12, 0, 0, 0, 0, 0, 0, 0, 0}, {1, 2, 3, 4, 5, 6, 7, 8, 9, 10, 11, 12},
	}
}

// begun is the first bytes of a field that says that it has so many, and zeros behind them, so many bytes in all.
func begun(kind, length uint16, all int) []byte {
	b := binary.BigEndian.AppendUint16(nil, kind)
	b = binary.BigEndian.AppendUint16(b, length)
	return append(b, make([]byte, all)...)[:all]
}

// answer is what Parse has to answer.
type answer struct {
	l    []api.Ext
	left []byte
	e    api.Errno
}

// parsed is what has to come of bytes, behind so many fields that were read, as P5.2 tells it, field behind field.
func parsed(b []byte, before int) answer {
	if len(b) == 0 || len(b) == 12 {
		return answer{left: b}
	}
	if len(b) <= 15 {
		return answer{e: api.ErrShort}
	}
	length := 256*int(b[2]) + int(b[3])
	switch {
	case !slices.Contains(mayData(), length-4):
		return answer{e: api.ErrForm}
	case length > len(b):
		return answer{e: api.ErrShort}
	case before == 8:
		return answer{e: api.ErrFull}
	}
	rest := parsed(b[length:], before+1)
	if rest.e != api.OK {
		return rest
	}
	first := api.Ext{Type: 256*uint16(b[0]) + uint16(b[1]), Data: b[4:length]}
	return answer{l: append([]api.Ext{first}, rest.l...), left: rest.left}
}

// checkParse holds one call of Parse against what has to come of it; what is told is new memory, and leads back.
func checkParse(t *testing.T, b []byte) api.Errno {
	t.Helper()
	given := slices.Clone(b)
	right := parsed(slices.Clone(b), 0)
	l, left, e := ext.Parse(given)
	if e != right.e || !same(l, right.l) || !bytes.Equal(left, right.left) {
		t.Fatalf("Parse(%x) = %v, %x, %d; want %v, %x, %d", b, l, left, e, right.l, right.left, right.e)
	}
	if e != api.OK {
		if l != nil || left != nil {
			t.Fatalf("Parse(%x) = %v, %x beside %d", b, l, left, e)
		}
		return e
	}
	if !ext.May(l) {
		t.Fatalf("Parse(%x) = %v, which may not be", b, l)
	}
	back, e := ext.Put(l)
	if e != api.OK || !bytes.Equal(append(back, left...), b) {
		t.Fatalf("Parse(%x) leads back to %x, %x, %d", b, back, left, e)
	}
	checkMemory(t, given, l, left, right)
	if !bytes.Equal(given, b) {
		t.Fatalf("Parse(%x) left %x", b, given)
	}
	return api.OK
}

// checkMemory tells of what Parse answered of b, if it shares memory with b, or one part of it with another.
func checkMemory(t *testing.T, b []byte, l []api.Ext, left []byte, right answer) {
	t.Helper()
	spoil(b)
	if !same(l, right.l) || !bytes.Equal(left, right.left) {
		t.Fatalf("Parse kept what was handed in: %v, %x; want %v, %x", l, left, right.l, right.left)
	}
	spoil(b)
	spoil(left)
	for i := range l {
		if !same(l[i:], right.l[i:]) {
			t.Fatalf("fields that Parse told share memory: %v; want %v", l[i:], right.l[i:])
		}
		spoil(l[i].Data)
	}
}

// P5.2: the chapter's examples, and the edges of each of its errors, written out.
func TestParseByHand(t *testing.T) {
	zeros := func(n int) []byte { return make([]byte, n) }
	one := api.Ext{Type: 0x102, Data: zeros(12)}
	for _, c := range []struct {
		b    []byte
		l    []api.Ext
		left []byte
		e    api.Errno
	}{
		{nil, nil, nil, api.OK},
		{[]byte{}, nil, nil, api.OK},
		{begun(0x102, 0x10, 16), []api.Ext{one}, nil, api.OK},
		{zeros(12), nil, zeros(12), api.OK},
		{begun(0x102, 0xc, 20), nil, nil, api.ErrForm},
		{begun(0x102, 0x10, 12), nil, begun(0x102, 0x10, 12), api.OK},
		{begun(0x102, 0x10, 13), nil, nil, api.ErrShort},
		{begun(0x102, 0x10, 28), []api.Ext{one}, zeros(12), api.OK},
		{begun(0x102, 0x10, 15), nil, nil, api.ErrShort},
		{begun(0x102, 0x10, 17), nil, nil, api.ErrShort},
		{begun(0x102, 0x10, 27), nil, nil, api.ErrShort},
		{begun(0x102, 0x10, 29), nil, nil, api.ErrShort},
		{begun(0x102, 0x10, 31), nil, nil, api.ErrShort},
		{begun(0x102, 0x10, 32), nil, nil, api.ErrForm}, // behind the field 16 zeros
		{slices.Concat(begun(0x102, 0x10, 16), begun(0x102, 0x10, 16)), []api.Ext{one, one}, nil, api.OK},
		{begun(0, 0, 16), nil, nil, api.ErrForm},
		{begun(0, 4, 16), nil, nil, api.ErrForm},
		{begun(0, 12, 16), nil, nil, api.ErrForm},
		{begun(0, 15, 16), nil, nil, api.ErrForm},
		{begun(0, 17, 16), nil, nil, api.ErrForm},
		{begun(0, 17, 17), nil, nil, api.ErrForm},
		{begun(0, 18, 18), nil, nil, api.ErrForm},
		{begun(0, 20, 16), nil, nil, api.ErrShort},
		{begun(0, 20, 19), nil, nil, api.ErrShort},
		{begun(0, 20, 20), []api.Ext{{Data: zeros(16)}}, nil, api.OK},
		{begun(0, 20, 32), []api.Ext{{Data: zeros(16)}}, zeros(12), api.OK},
		{begun(0, 468, 467), nil, nil, api.ErrShort},
		{begun(0, 468, 468), []api.Ext{{Data: zeros(464)}}, nil, api.OK},
		{begun(0, 468, 480), []api.Ext{{Data: zeros(464)}}, zeros(12), api.OK},
		{begun(0, 472, 472), nil, nil, api.ErrForm},
		{begun(0, 472, 16), nil, nil, api.ErrForm},
		{begun(0, 0xfffc, 0xfffc), nil, nil, api.ErrForm},
		{begun(0, 0xffff, 16), nil, nil, api.ErrForm},
		{begun(0, 0x8010, 16), nil, nil, api.ErrForm},
	} {
		l, left, e := ext.Parse(c.b)
		if !same(l, c.l) || !bytes.Equal(left, c.left) || e != c.e {
			t.Errorf("Parse(%x) = %v, %x, %d; want %v, %x, %d", c.b, l, left, e, c.l, c.left, c.e)
		}
		checkParse(t, c.b)
	}
}

// P5.2: so few bytes that they are neither nothing nor 12 nor a field are ErrShort, whatever they say, behind as many fields as may be.
func TestParseFew(t *testing.T) {
	chance := rand.New(rand.NewPCG(15, 256))
	for many := range 9 {
		fields := several(chance, slices.Repeat([]int{12}, many)...)
		for n := range 16 {
			for _, length := range []uint16{0, 4, 12, 13, 15, 16, 17, 20, 468, 472, 0xffff} {
				e := api.ErrShort
				if n == 0 || n == 12 {
					e = api.OK
				}
				b := append(want(fields), begun(9, length, n)...)
				l, left, got := ext.Parse(b)
				if got != e {
					t.Fatalf("%d fields and %d bytes: %d; want %d", many, n, got, e)
				}
				if e == api.OK && (!same(l, fields) || !bytes.Equal(left, begun(9, length, n))) {
					t.Fatalf("%d fields and %d bytes: %v, %x", many, n, l, left)
				}
				checkParse(t, b)
			}
		}
	}
}

// P5.2: every length that a field can say, with less, just as much and more left: none that may not be is ErrShort, once 16 bytes are left.
func TestParseLengths(t *testing.T) {
	all := mayData()
	b := make([]byte, 66000)
	for length := range 65536 {
		binary.BigEndian.PutUint16(b[2:], uint16(length))
		form := !slices.Contains(all, length-4)
		for _, n := range []int{16, 17, 18, 19, 20, 467, 468, 469, 472, length - 1, length, length + 12, len(b)} {
			if n < 16 {
				continue
			}
			_, _, e := ext.Parse(b[:n])
			switch {
			case form && e != api.ErrForm, !form && length > n && e != api.ErrShort, !form && (length == n || length+12 == n) && e != api.OK:
				t.Fatalf("length %d of %d bytes: %d", length, n, e)
			}
		}
	}
}

// P5.2: one field more than may be is ErrFull, whatever is behind it; if it may not be, or is not all there, that is told first.
func TestParseFull(t *testing.T) {
	chance := rand.New(rand.NewPCG(16, 256))
	for _, n := range []int{12, 16, 464} {
		full := want(several(chance, slices.Repeat([]int{n}, 8)...))
		for _, c := range []struct {
			behind []byte
			e      api.Errno
		}{
			{nil, api.OK},
			{make([]byte, 12), api.OK},
			{begun(1, 16, 12), api.OK},
			{begun(1, 16, 15), api.ErrShort},
			{begun(1, 16, 13), api.ErrShort},
			{begun(1, 16, 1), api.ErrShort},
			{begun(1, 16, 16), api.ErrFull},
			{begun(1, 16, 17), api.ErrFull},
			{begun(1, 16, 28), api.ErrFull},
			{begun(1, 16, 29), api.ErrFull},
			{begun(1, 16, 32), api.ErrFull}, // what is behind it is no field
			{slices.Concat(begun(1, 16, 16), begun(1, 16, 16)), api.ErrFull},
			{begun(1, 20, 16), api.ErrShort},
			{begun(1, 468, 467), api.ErrShort},
			{begun(1, 468, 468), api.ErrFull},
			{begun(1, 12, 16), api.ErrForm},
			{begun(1, 0, 16), api.ErrForm},
			{begun(1, 17, 16), api.ErrForm},
			{begun(1, 472, 16), api.ErrForm},
			{begun(1, 472, 472), api.ErrForm},
		} {
			b := append(slices.Clone(full), c.behind...)
			if l, left, e := ext.Parse(b); e != c.e || len(l) != 8 && e == api.OK || !bytes.Equal(left, c.behind) && e == api.OK {
				t.Errorf("8 fields and %x: %v, %x, %d; want %d", c.behind, l, left, e, c.e)
			}
			checkParse(t, b)
		}
	}
}

// P5.2: the first field that may not be tells, also before what is behind it, and each may be so.
func TestParseFirst(t *testing.T) {
	chance := rand.New(rand.NewPCG(17, 256))
	form, short := begun(1, 17, 20), begun(1, 468, 20)
	for many := range 8 {
		good := want(several(chance, slices.Repeat([]int{16}, many)...))
		for _, c := range []struct {
			behind []byte
			e      api.Errno
		}{
			{form, api.ErrForm},
			{short, api.ErrShort},
			{slices.Concat(form, short), api.ErrForm},
			{slices.Concat(short, form), api.ErrShort},
			{slices.Concat(form, make([]byte, 5)), api.ErrForm},
			{slices.Concat(begun(1, 12, 12), begun(1, 16, 16)), api.ErrForm},
			{slices.Concat(form, bytes.Repeat(begun(1, 16, 16), 10)), api.ErrForm},
		} {
			b := append(slices.Clone(good), c.behind...)
			if l, left, e := ext.Parse(b); e != c.e || l != nil || left != nil {
				t.Errorf("%d fields and %x: %v, %x, %d; want %d", many, c.behind, l, left, e, c.e)
			}
			checkParse(t, b)
		}
	}
}

// P5.3: what Put tells, with nothing or any 12 bytes behind, is the fields, and these.
func TestBack(t *testing.T) {
	for _, l := range rows() {
		for _, tail := range tails() {
			put, _ := ext.Put(l)
			b := append(put, tail...)
			got, left, e := ext.Parse(b)
			if !same(got, l) || !ext.Same(got, l) || !bytes.Equal(left, tail) || e != api.OK {
				t.Fatalf("Put(%v) and %x lead back to %v, %x, %d", l, tail, got, left, e)
			}
			checkParse(t, b)
		}
	}
}

// P5.2, P5.3: any bytes, many of them fields with a few bytes changed, gone or more, answer as they have to, and lead back.
func TestParseAny(t *testing.T) {
	chance := rand.New(rand.NewPCG(18, 256))
	seen := map[api.Errno]int{}
	for range 20000 {
		lengths := make([]int, chance.IntN(11))
		for i := range lengths {
			lengths[i] = 12 + 4*chance.IntN(4)
		}
		b := want(several(chance, lengths...))
		b = append(b, tails()[chance.IntN(len(tails()))]...)
		for range chance.IntN(3) {
			if len(b) == 0 {
				break
			}
			switch at := chance.IntN(len(b)); chance.IntN(4) {
			case 0:
				b[at] = byte(chance.Uint32())
			case 1:
				b = b[:at]
			case 2:
				b = slices.Delete(b, at, min(len(b), at+4))
			default:
				b = slices.Insert(b, at, make([]byte, chance.IntN(20))...)
			}
		}
		seen[checkParse(t, b)]++
	}
	for n := range 600 {
		seen[checkParse(t, some(chance, n).Data)]++
	}
	for _, e := range []api.Errno{api.OK, api.ErrShort, api.ErrForm, api.ErrFull} {
		if seen[e] < 500 {
			t.Errorf("answers that were seen: %v", seen)
		}
	}
	if len(seen) != 4 {
		t.Errorf("answers that were seen: %v", seen)
	}
}

// ways are in how many ways bytes are fields with just so many bytes behind them.
func ways(b []byte, tail int) int {
	found := 0
	if len(b) == tail {
		found++
	}
	for _, n := range mayData() {
		if len(b) >= 4+n && bytes.Equal(b[2:4], []byte{byte((4 + n) / 256), byte((4 + n) % 256)}) {
			found += ways(b[4+n:], tail)
		}
	}
	return found
}

// P5.4: bytes are fields with nothing or 12 bytes behind them in one way or in none, and Parse tells which.
func TestOneWay(t *testing.T) {
	chance := rand.New(rand.NewPCG(19, 256))
	for range 3000 {
		// Of few different bytes, so that lengths that may be stand in many places.
		b := make([]byte, 4*chance.IntN(24))
		for i := range b {
			b[i] = []byte{0, 0, 0, 16, 20, 12}[chance.IntN(6)]
			if i%4 == 2 {
				b[i] = 0
			}
		}
		l, left, e := ext.Parse(b)
		none, twelve := ways(b, 0), ways(b, 12)
		if none+twelve > 1 || e == api.OK != (none+twelve == 1) {
			t.Fatalf("%x is read in %d and %d ways, and Parse tells %d", b, none, twelve, e)
		}
		if e == api.OK && (len(left) == 12) != (twelve == 1) {
			t.Fatalf("Parse(%x) = %v, %x", b, l, left)
		}
	}
	for _, tail := range tails() {
		if l, left, e := ext.Parse(tail); len(l) != 0 || !bytes.Equal(left, tail) || e != api.OK {
			t.Errorf("Parse(%x) = %v, %x, %d", tail, l, left, e)
		}
	}
}
