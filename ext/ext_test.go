package ext_test

import (
	"bytes"
	"math/rand/v2"
	"slices"
	"testing"

	"ephemeris/api"
	"ephemeris/ext"
)

// mayData are all the lengths that a field's data may have, counted up.
func mayData() []int {
	var list []int
	for n := 12; n <= 464; n += 4 {
		list = append(list, n)
	}
	return list
}

// may is whether the fields may be, each length looked up in the list of all that may.
func may(l []api.Ext) bool {
	all := mayData()
	for _, f := range l {
		if !slices.Contains(all, len(f.Data)) {
			return false
		}
	}
	return len(l) <= 8
}

// want is the fields' bytes, by quotients and remainders.
func want(l []api.Ext) []byte {
	var b []byte
	for _, f := range l {
		n := len(f.Data) + 4
		b = append(b, byte(f.Type/256), byte(f.Type%256), byte(n/256), byte(n%256))
		b = append(b, f.Data...)
	}
	return b
}

// same is whether both are the same fields, looked at byte by byte.
func same(a, b []api.Ext) bool {
	if len(a) != len(b) {
		return false
	}
	for i := range a {
		if a[i].Type != b[i].Type || string(a[i].Data) != string(b[i].Data) {
			return false
		}
	}
	return true
}

// some is a field of chance with so many bytes of data.
func some(chance *rand.Rand, n int) api.Ext {
	f := api.Ext{Type: uint16(chance.Uint32()), Data: make([]byte, n)}
	for i := range f.Data {
		f.Data[i] = byte(chance.Uint32())
	}
	return f
}

// several are fields of chance with data of these lengths.
func several(chance *rand.Rand, lengths ...int) []api.Ext {
	var l []api.Ext
	for _, n := range lengths {
		l = append(l, some(chance, n))
	}
	return l
}

// cloned is the same fields in new memory.
func cloned(l []api.Ext) []api.Ext {
	var list []api.Ext
	for _, f := range l {
		list = append(list, api.Ext{Type: f.Type, Data: slices.Clone(f.Data)})
	}
	return list
}

// rows are fields that may be: none, one of each length, as many of one length as may be, chance; the same ones in every run.
func rows() [][]api.Ext {
	chance := rand.New(rand.NewPCG(11, 256))
	list := [][]api.Ext{nil, {}}
	for _, n := range mayData() {
		list = append(list, several(chance, n), several(chance, 12, n), several(chance, n, 464, n))
	}
	for many := range 9 {
		list = append(list,
			several(chance, slices.Repeat([]int{12}, many)...),
			several(chance, slices.Repeat([]int{16}, many)...),
			several(chance, slices.Repeat([]int{464}, many)...))
	}
	for _, kind := range []uint16{0, 1, 255, 256, 0x8000, 0xffff} {
		list = append(list, []api.Ext{{Type: kind, Data: make([]byte, 12)}}, []api.Ext{{Type: kind, Data: bytes.Repeat([]byte{255}, 464)}})
	}
	all := mayData()
	for range 500 {
		lengths := make([]int, chance.IntN(9))
		for i := range lengths {
			lengths[i] = all[chance.IntN(len(all))]
		}
		list = append(list, several(chance, lengths...))
	}
	return list
}

// rowsThatMayNot are fields that may not be: too many, or with data of no length that may be, in each place.
func rowsThatMayNot() [][]api.Ext {
	chance := rand.New(rand.NewPCG(12, 256))
	list := [][]api.Ext{
		{{}}, {{Type: 1, Data: []byte{}}},
		several(chance, slices.Repeat([]int{12}, 9)...),
		several(chance, slices.Repeat([]int{464}, 9)...),
		several(chance, slices.Repeat([]int{12}, 10)...),
		several(chance, slices.Repeat([]int{12}, 16)...),
		several(chance, slices.Repeat([]int{12}, 17)...),
		several(chance, slices.Repeat([]int{12}, 256)...),
		several(chance, slices.Repeat([]int{8}, 9)...),
	}
	for _, n := range []int{0, 1, 3, 4, 8, 10, 11, 13, 14, 15, 17, 18, 462, 463, 465, 466, 467, 468, 472, 512, 65532, 65536, 65536 + 8, 65536 + 12, 65536 + 464} {
		for at := range 8 {
			lengths := slices.Repeat([]int{12}, at+1)
			lengths[at] = n
			list = append(list, several(chance, lengths...), several(chance, append(lengths, 12)...))
		}
	}
	return list
}

// P5.1: Most is 464, and of fields at most 8.
func TestLimits(t *testing.T) {
	if ext.Most != 464 || api.MaxExts != 8 {
		t.Errorf("Most %d, MaxExts %d", ext.Most, api.MaxExts)
	}
}

// P5.1: a field's data has a multiple of 4 bytes, from 12 to 464, whatever its Type and its bytes.
func TestMayData(t *testing.T) {
	chance := rand.New(rand.NewPCG(13, 256))
	for n := range 1200 {
		f := some(chance, n)
		if got := ext.May([]api.Ext{f}); got != slices.Contains(mayData(), n) {
			t.Errorf("May of %d bytes of data = %t", n, got)
		}
		for at := range 8 {
			l := several(chance, slices.Repeat([]int{12}, 8)...)
			l[at] = f
			if got := ext.May(l); got != slices.Contains(mayData(), n) {
				t.Errorf("May of %d bytes of data as number %d = %t", n, at, got)
			}
		}
	}
	for kind := range 65536 {
		if !ext.May([]api.Ext{{Type: uint16(kind), Data: make([]byte, 16)}}) || ext.May([]api.Ext{{Type: uint16(kind), Data: make([]byte, 14)}}) {
			t.Fatalf("May of Type %x", kind)
		}
	}
}

// P5.1: at most 8 fields may be, nil and no fields alike.
func TestMayMany(t *testing.T) {
	if !ext.May(nil) || !ext.May([]api.Ext{}) {
		t.Error("May of no fields = false")
	}
	for many := range 300 {
		for _, n := range []int{12, 464} {
			l := slices.Repeat([]api.Ext{{Type: 1, Data: make([]byte, n)}}, many)
			if got := ext.May(l); got != (many <= 8) {
				t.Errorf("May of %d fields = %t", many, got)
			}
		}
	}
}

// P5.1: what may be and what may not, in full; what is handed in stays.
func TestMay(t *testing.T) {
	for _, l := range slices.Concat(rows(), rowsThatMayNot()) {
		given := cloned(l)
		if got := ext.May(given); got != may(l) || !same(given, l) {
			t.Fatalf("May(%v) = %t, and left %v", l, got, given)
		}
	}
}

// byHand is fields, and what their bytes are.
type byHand struct {
	l []api.Ext
	b []byte
}

// handMade are fields whose bytes are written out.
func handMade() []byHand {
	zeros := func(n int) []byte { return make([]byte, n) }
	twelve := []byte{1, 2, 3, 4, 5, 6, 7, 8, 9, 10, 11, 12}
	return []byHand{
		{nil, nil},
		{[]api.Ext{{Type: 0x102, Data: twelve}}, []byte{1, 2, 0, 0x10, 1, 2, 3, 4, 5, 6, 7, 8, 9, 10, 11, 12}},
		{[]api.Ext{{Data: zeros(12)}}, slices.Concat([]byte{0, 0, 0, 0x10}, zeros(12))},
		{[]api.Ext{{Type: 0xfffe, Data: zeros(16)}}, slices.Concat([]byte{0xff, 0xfe, 0, 0x14}, zeros(16))},
		{[]api.Ext{{Type: 7, Data: zeros(248)}}, slices.Concat([]byte{0, 7, 0, 0xfc}, zeros(248))},
		{[]api.Ext{{Type: 7, Data: zeros(252)}}, slices.Concat([]byte{0, 7, 1, 0}, zeros(252))},
		{[]api.Ext{{Type: 7, Data: zeros(464)}}, slices.Concat([]byte{0, 7, 1, 0xd4}, zeros(464))},
		{
			[]api.Ext{{Type: 0x102, Data: twelve}, {Type: 0x304, Data: zeros(16)}, {Type: 0x102, Data: twelve}},
			slices.Concat([]byte{1, 2, 0, 0x10}, twelve, []byte{3, 4, 0, 0x14}, zeros(16), []byte{1, 2, 0, 0x10}, twelve),
		},
	}
}

// P5.1, P5.2: fields and their bytes, written out by hand.
func TestByHand(t *testing.T) {
	for _, c := range handMade() {
		if b, e := ext.Put(c.l); !bytes.Equal(b, c.b) || e != api.OK {
			t.Errorf("Put(%v) = %x, %d; want %x", c.l, b, e, c.b)
		}
		if l, left, e := ext.Parse(c.b); !same(l, c.l) || len(left) != 0 || e != api.OK {
			t.Errorf("Parse(%x) = %v, %x, %d; want %v", c.b, l, left, e, c.l)
		}
	}
}

// P5.1: Put tells the fields' bytes, one behind the other, in new memory; what is handed in stays.
func TestPut(t *testing.T) {
	for _, l := range rows() {
		given := cloned(l)
		b, e := ext.Put(given)
		if !bytes.Equal(b, want(l)) || e != api.OK {
			t.Fatalf("Put(%v) = %x, %d; want %x", l, b, e, want(l))
		}
		spoil(b)
		if !same(given, l) {
			t.Fatalf("Put(%v) left %v", l, given)
		}
		if again, _ := ext.Put(given); !bytes.Equal(again, want(l)) {
			t.Fatalf("Put(%v) told memory that is its own", l)
		}
	}
}

// P5.1: fields that may not be are ErrArg, and no bytes; what is handed in stays.
func TestPutMayNot(t *testing.T) {
	for _, l := range rowsThatMayNot() {
		given := cloned(l)
		if b, e := ext.Put(given); b != nil || e != api.ErrArg || !same(given, l) {
			t.Fatalf("Put(%v) = %x, %d, and left %v", l, b, e, given)
		}
	}
}

// P5.1: fields are the same as themselves in other memory, and as themselves alone; those that may not be, too.
func TestSame(t *testing.T) {
	list := slices.Concat(rows()[:40], rowsThatMayNot()[:60])
	for _, l := range list {
		for _, m := range list {
			a, b := cloned(l), cloned(m)
			if got := ext.Same(a, b); got != same(l, m) || !same(a, l) || !same(b, m) {
				t.Fatalf("Same(%v, %v) = %t", l, m, got)
			}
		}
	}
}

// P5.1: each bit of a Type and each byte of the data tells, a field more or less, and their order.
func TestSameChanged(t *testing.T) {
	chance := rand.New(rand.NewPCG(14, 256))
	checkOther := func(l, m []api.Ext) {
		t.Helper()
		if ext.Same(l, m) || ext.Same(m, l) {
			t.Fatalf("Same(%v, %v) = true", l, m)
		}
	}
	for _, l := range [][]api.Ext{several(chance, 12), several(chance, 16, 12, 20), several(chance, 12, 12, 12, 12, 12, 12, 12, 464), several(chance, 5, 3), several(chance, slices.Repeat([]int{13}, 10)...)} {
		for i := range l {
			for bit := range 16 {
				m := cloned(l)
				m[i].Type ^= 1 << bit
				checkOther(l, m)
			}
			for at := range l[i].Data {
				m := cloned(l)
				m[i].Data[at] ^= 1 << chance.IntN(8)
				checkOther(l, m)
			}
			checkOther(l, slices.Delete(cloned(l), i, i+1))
			checkOther(l, slices.Insert(cloned(l), i, some(chance, 12)))
			m := cloned(l)
			m[i].Data = append(m[i].Data, 0)
			checkOther(l, m)
			m[i].Data = m[i].Data[:len(l[i].Data)-1]
			checkOther(l, m)
		}
		checkOther(l, append(cloned(l), api.Ext{}))
		checkOther(l, nil)
		if m := cloned(l); len(m) > 1 {
			m[0], m[1] = m[1], m[0]
			checkOther(l, m)
		}
	}
}

// P5.1: nil and empty lists are one, of fields and of bytes; the bytes of two fields that are parted otherwise are others.
func TestSameEmpty(t *testing.T) {
	if !ext.Same(nil, []api.Ext{}) || !ext.Same([]api.Ext{}, nil) || !ext.Same(nil, nil) {
		t.Error("Same of nothing = false")
	}
	if !ext.Same([]api.Ext{{Type: 5}}, []api.Ext{{Type: 5, Data: []byte{}}}) || !ext.Same([]api.Ext{{Type: 5, Data: []byte{}}}, []api.Ext{{Type: 5}}) {
		t.Error("Same of no data = false")
	}
	if ext.Same([]api.Ext{{}}, nil) || ext.Same([]api.Ext{{Data: []byte{1, 2}}, {Data: []byte{3}}}, []api.Ext{{Data: []byte{1}}, {Data: []byte{2, 3}}}) {
		t.Error("Same of others = true")
	}
}

// P5.1: the data of the first field of that Type, in new memory; of none false, and no data.
func TestFind(t *testing.T) {
	data := func(b byte, n int) []byte { return bytes.Repeat([]byte{b}, n) }
	twice := []api.Ext{{Type: 5, Data: data(1, 12)}, {Type: 7, Data: data(2, 16)}, {Type: 0, Data: data(3, 12)}, {Type: 7, Data: data(4, 20)}, {Type: 0xffff, Data: data(5, 464)}}
	mayNot := []api.Ext{{Type: 1}, {Type: 2, Data: []byte{9}}, {Type: 1, Data: data(6, 12)}, {Type: 3, Data: data(7, 1000)}}
	for _, c := range []struct {
		l    []api.Ext
		kind uint16
		want []byte
		ok   bool
	}{
		{twice, 5, data(1, 12), true},
		{twice, 7, data(2, 16), true},
		{twice, 0, data(3, 12), true},
		{twice, 0xffff, data(5, 464), true},
		{twice, 6, nil, false},
		{twice, 0x700, nil, false},
		{twice, 0xff, nil, false},
		{twice, 0x107, nil, false},
		{nil, 0, nil, false},
		{[]api.Ext{}, 0, nil, false},
		{twice[:2], 0, nil, false},
		{mayNot, 1, nil, true},
		{mayNot, 2, []byte{9}, true},
		{mayNot, 3, data(7, 1000), true},
		{mayNot, 0, nil, false},
		{slices.Repeat(twice[:1], 20), 5, data(1, 12), true},
	} {
		given := cloned(c.l)
		got, ok := ext.Find(given, c.kind)
		if !bytes.Equal(got, c.want) || ok != c.ok || !ok && got != nil {
			t.Errorf("Find(%v, %x) = %x, %t; want %x, %t", c.l, c.kind, got, ok, c.want, c.ok)
		}
		spoil(got)
		if !same(given, c.l) {
			t.Errorf("Find(%v, %x) shares its memory", c.l, c.kind)
		}
	}
}

// P5.1: Find of every field of a row is the first one's data of that Type.
func TestFindEach(t *testing.T) {
	for _, l := range rows() {
		l = cloned(l)
		for i := range l {
			l[i].Type %= 4 // so that some are there twice
		}
		for kind := range uint16(5) {
			var first []byte
			there := false
			for i := len(l) - 1; i >= 0; i-- {
				if l[i].Type == kind {
					first, there = l[i].Data, true
				}
			}
			if got, ok := ext.Find(l, kind); !bytes.Equal(got, first) || ok != there {
				t.Fatalf("Find(%v, %x) = %x, %t", l, kind, got, ok)
			}
		}
	}
}
