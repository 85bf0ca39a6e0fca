package octet_test

import (
	"bytes"
	"math"
	"math/big"
	"math/rand/v2"
	"slices"
	"testing"

	"ephemeris/api"
	"ephemeris/octet"
)

const (
	most  = math.MaxInt64
	least = math.MinInt64
)

// noSizes are numbers of bytes that no number may have.
var noSizes = []int{0, 9, -1, 16, -8, 64, 256 + 1, 1<<32 + 1, math.MaxInt, math.MinInt, math.MinInt + 1}

// power is 256 to the power of size.
func power(size int) *big.Int {
	return new(big.Int).Exp(big.NewInt(256), big.NewInt(int64(size)), nil)
}

// greatest is the greatest number that fits.
func greatest(size int) uint64 {
	return power(size).Sub(power(size), big.NewInt(1)).Uint64()
}

// digits are a number's digits to the base 256, by quotients and remainders, the highest one first.
func digits(n uint64, size int) []byte {
	place := make([]byte, size)
	for i := size - 1; i >= 0; i-- {
		place[i] = byte(n % 256)
		n /= 256
	}
	return place
}

// numbers are numbers of that size: its edges, and some of every length, the same ones in every run.
func numbers(size int) []uint64 {
	end := greatest(size)
	list := []uint64{0, 1, 2, 127, 128, 254, 255, end, end - 1, end / 2, end/2 + 1, end/256 + 1, 0x0102030405060708 & end, 0x8040201008040201 & end}
	chance := rand.New(rand.NewPCG(3, uint64(size)))
	for length := range 8 * size {
		list = append(list, chance.Uint64()&end>>length)
	}
	return list
}

// signs are int64s at which a size's signed numbers end, and their neighbours.
func signs() []int64 {
	list := []int64{least, least + 1, most, most - 1, 0, 1, -1, 2, -2, -6}
	for bit := range 63 {
		for _, by := range []int64{-2, -1, 0, 1, 2} {
			list = append(list, 1<<bit+by, -1<<bit+by)
		}
	}
	chance := rand.New(rand.NewPCG(4, 256))
	for length := range 64 {
		list = append(list, int64(chance.Uint64()>>length), -int64(chance.Uint64()>>length))
	}
	return list
}

// row is a row of sizes, numbers of these sizes, and their bytes.
type row struct {
	sizes []int
	l     []uint64
	b     []byte
}

// rows are rows of every kind: of none, of one of each size, of two of any sizes, of many; the same ones in every run.
func rows() []row {
	list := []row{{}, {sizes: []int{}, l: []uint64{}, b: []byte{}}}
	add := func(sizes []int, pick func(size int) uint64) {
		var r row
		for _, size := range sizes {
			n := pick(size)
			r.sizes, r.l, r.b = append(r.sizes, size), append(r.l, n), append(r.b, digits(n, size)...)
		}
		list = append(list, r)
	}
	chance := rand.New(rand.NewPCG(5, 256))
	some := func(size int) uint64 {
		of := numbers(size)
		return of[chance.IntN(len(of))]
	}
	for size := range 9 {
		if size == 0 {
			continue
		}
		for _, n := range numbers(size) {
			add([]int{size}, func(int) uint64 { return n })
		}
		for second := range 9 {
			if second > 0 {
				add([]int{size, second}, greatest)
				add([]int{size, second}, some)
			}
		}
	}
	for range 300 {
		sizes := make([]int, chance.IntN(20))
		for i := range sizes {
			sizes[i] = 1 + chance.IntN(8)
		}
		add(sizes, some)
	}
	return list
}

// P3.1: as many bytes as all sizes have together, of none 0.
func TestWidth(t *testing.T) {
	for _, c := range []struct {
		sizes []int
		want  int
	}{
		{nil, 0}, {[]int{}, 0}, {[]int{1}, 1}, {[]int{8}, 8}, {[]int{1, 2}, 3}, {[]int{2, 1}, 3}, {[]int{8, 8, 8}, 24},
		{[]int{1, 2, 3, 4, 5, 6, 7, 8}, 36}, {[]int{1, 1, 1, 1, 4, 4, 4, 8, 8, 8, 8}, 48},
	} {
		if n, e := octet.Width(c.sizes); n != c.want || e != api.OK {
			t.Errorf("Width(%v) = %d, %d; want %d", c.sizes, n, e, c.want)
		}
	}
	for _, r := range rows() {
		if n, e := octet.Width(r.sizes); n != len(r.b) || e != api.OK {
			t.Fatalf("Width(%v) = %d, %d; want %d", r.sizes, n, e, len(r.b))
		}
	}
}

// P3.1, P3.2: a size that is none is ErrArg, wherever in the row it stands, and whatever else is wrong.
func TestNoSizes(t *testing.T) {
	for _, none := range noSizes {
		for _, sizes := range [][]int{{none}, {none, 1}, {1, none}, {8, none, 8}, {none, none}, {9, none}, {-1, 1, none}} {
			if n, e := octet.Width(sizes); n != 0 || e != api.ErrArg {
				t.Errorf("Width(%v) = %d, %d", sizes, n, e)
			}
			for _, l := range [][]uint64{nil, make([]uint64, len(sizes)), slices.Repeat([]uint64{math.MaxUint64}, len(sizes))} {
				if b, e := octet.Lay(sizes, l); b != nil || e != api.ErrArg {
					t.Errorf("Lay(%v, %x) = %x, %d", sizes, l, b, e)
				}
			}
			for _, b := range [][]byte{nil, {1}, make([]byte, 64)} {
				if l, rest, e := octet.Take(sizes, b); l != nil || rest != nil || e != api.ErrArg {
					t.Errorf("Take(%v, %x) = %x, %x, %d", sizes, b, l, rest, e)
				}
			}
		}
	}
}

// P3.2: a row's numbers stand one behind the other, without a gap, the highest digit first; what is given stays.
func TestLay(t *testing.T) {
	for _, r := range rows() {
		sizes, l := slices.Clone(r.sizes), slices.Clone(r.l)
		b, e := octet.Lay(sizes, l)
		if !bytes.Equal(b, r.b) || e != api.OK {
			t.Fatalf("Lay(%v, %x) = %x, %d; want %x", r.sizes, r.l, b, e, r.b)
		}
		for i := range b {
			b[i]++
		}
		if !slices.Equal(sizes, r.sizes) || !slices.Equal(l, r.l) {
			t.Fatalf("Lay(%v, %x) left %v, %x", r.sizes, r.l, sizes, l)
		}
		if again, _ := octet.Lay(sizes, l); !bytes.Equal(again, r.b) {
			t.Fatalf("Lay(%v, %x) told memory that is its own", r.sizes, r.l)
		}
	}
}

// P3.2: the chapter's examples, and rows that need no other arithmetic to be believed.
func TestLayByHand(t *testing.T) {
	for _, c := range []struct {
		sizes []int
		l     []uint64
		b     []byte
		e     api.Errno
	}{
		{[]int{1, 2}, []uint64{5, 0x1234}, []byte{5, 0x12, 0x34}, api.OK},
		{[]int{1}, []uint64{0x100}, nil, api.ErrRange},
		{nil, nil, nil, api.OK},
		{[]int{}, nil, nil, api.OK},
		{nil, []uint64{}, nil, api.OK},
		{[]int{8}, []uint64{0x0102030405060708}, []byte{1, 2, 3, 4, 5, 6, 7, 8}, api.OK},
		{[]int{8}, []uint64{math.MaxUint64}, []byte{255, 255, 255, 255, 255, 255, 255, 255}, api.OK},
		{[]int{4, 1}, []uint64{1, 2}, []byte{0, 0, 0, 1, 2}, api.OK},
		{[]int{1, 4}, []uint64{1, 2}, []byte{1, 0, 0, 0, 2}, api.OK},
		{[]int{1, 2}, []uint64{5}, nil, api.ErrArg},
		{[]int{1, 2}, []uint64{5, 6, 7}, nil, api.ErrArg},
		{[]int{1}, nil, nil, api.ErrArg},
		{nil, []uint64{0}, nil, api.ErrArg},
	} {
		if b, e := octet.Lay(c.sizes, c.l); !bytes.Equal(b, c.b) || e != c.e {
			t.Errorf("Lay(%v, %x) = %x, %d; want %x, %d", c.sizes, c.l, b, e, c.b, c.e)
		}
	}
}

// P3.2: the greatest number of each size fits, the one behind it does not, wherever it stands; what is no row is told first.
func TestLayRange(t *testing.T) {
	for size := 1; size <= 8; size++ {
		end := greatest(size)
		if b, e := octet.Lay([]int{size}, []uint64{end}); !bytes.Equal(b, bytes.Repeat([]byte{255}, size)) || e != api.OK {
			t.Errorf("Lay(%d, %x) = %x, %d", size, end, b, e)
		}
		if size == 8 { // there is no greater one
			continue
		}
		for _, n := range []uint64{end + 1, end + 2, math.MaxUint64, 1 << 63, end<<8 | 255} {
			for _, r := range []row{{sizes: []int{size}, l: []uint64{n}}, {sizes: []int{size, 8}, l: []uint64{n, 0}}, {sizes: []int{8, size}, l: []uint64{0, n}}} {
				if b, e := octet.Lay(r.sizes, r.l); b != nil || e != api.ErrRange {
					t.Errorf("Lay(%v, %x) = %x, %d", r.sizes, r.l, b, e)
				}
				for _, l := range [][]uint64{append(slices.Clone(r.l), 0), append(slices.Clone(r.l), n), {n, n, n, n}} {
					if b, e := octet.Lay(r.sizes, l); b != nil || e != api.ErrArg {
						t.Errorf("Lay(%v, %x) = %x, %d", r.sizes, l, b, e)
					}
				}
				if b, e := octet.Lay(append(slices.Clone(r.sizes), 1), r.l); b != nil || e != api.ErrArg {
					t.Errorf("Lay(%v and 1, %x) = %x, %d", r.sizes, r.l, b, e)
				}
			}
		}
	}
}

// P3.2, P3.5: the numbers of a row and what is behind are told, in new memory, and lead back to the bytes; what is given stays.
func TestTake(t *testing.T) {
	for _, r := range rows() {
		for _, behind := range [][]byte{nil, {0}, {255}, {7, 0, 9}, bytes.Repeat([]byte{0x99}, 30)} {
			sizes, b := slices.Clone(r.sizes), slices.Concat(r.b, behind)
			l, rest, e := octet.Take(sizes, b)
			if !slices.Equal(l, r.l) || !bytes.Equal(rest, behind) || e != api.OK {
				t.Fatalf("Take(%v, %x) = %x, %x, %d; want %x, %x", r.sizes, b, l, rest, e, r.l, behind)
			}
			if back, e := octet.Lay(sizes, l); !bytes.Equal(append(back, rest...), b) || e != api.OK {
				t.Fatalf("Take(%v, %x) leads back to %x, %d", r.sizes, b, back, e)
			}
			for i := range l {
				l[i]++
			}
			for i := range rest {
				rest[i]++
			}
			_ = append(rest, 1, 2, 3)
			if !slices.Equal(sizes, r.sizes) || !bytes.Equal(b, slices.Concat(r.b, behind)) {
				t.Fatalf("Take(%v, %x) shares its memory", r.sizes, b)
			}
		}
	}
}

// P3.5: any bytes that are enough are a row, and lead back.
func TestTakeAnyBytes(t *testing.T) {
	chance := rand.New(rand.NewPCG(6, 256))
	for _, r := range rows() {
		b := make([]byte, len(r.b)+chance.IntN(4))
		for i := range b {
			b[i] = byte(chance.Uint32())
		}
		l, rest, e := octet.Take(r.sizes, b)
		if e != api.OK || len(l) != len(r.sizes) || len(rest) != len(b)-len(r.b) {
			t.Fatalf("Take(%v, %x) = %x, %x, %d", r.sizes, b, l, rest, e)
		}
		if back, e := octet.Lay(r.sizes, l); !bytes.Equal(append(back, rest...), b) || e != api.OK {
			t.Fatalf("Take(%v, %x) leads back to %x and %x, %d", r.sizes, b, back, rest, e)
		}
	}
}

// P3.2: one byte too few is ErrShort, and so is each fewer.
func TestTakeShort(t *testing.T) {
	for _, r := range rows() {
		for n := range r.b {
			if l, rest, e := octet.Take(r.sizes, r.b[:n]); l != nil || rest != nil || e != api.ErrShort {
				t.Fatalf("Take(%v, %x) = %x, %x, %d", r.sizes, r.b[:n], l, rest, e)
			}
		}
	}
	l, rest, e := octet.Take([]int{1, 2}, []byte{5, 0x12, 0x34, 0x99})
	if !slices.Equal(l, []uint64{5, 0x1234}) || !bytes.Equal(rest, []byte{0x99}) || e != api.OK {
		t.Errorf("the example: %x, %x, %d", l, rest, e)
	}
	if l, rest, e := octet.Take(nil, nil); len(l) != 0 || len(rest) != 0 || e != api.OK {
		t.Errorf("of nothing: %x, %x, %d", l, rest, e)
	}
}

// places are where a place may be asked for, in and out of so many bytes.
func places(length int) []int {
	list := []int{math.MinInt, math.MinInt + 1, -length - 1, -length, -1 << 32, -9, -8, math.MaxInt, math.MaxInt - 1, math.MaxInt - 7, math.MaxInt - 8, 1 << 32}
	for at := -2; at <= length+9; at++ {
		list = append(list, at)
	}
	return list
}

// P3.3: the number of a place that is all within the bytes, up to their very end; else 0 and false.
func TestAt(t *testing.T) {
	whole := []byte{0xfe, 0xdc, 0xba, 0x98, 0x76, 0x54, 0x32, 0x10, 0x01, 0x80, 0x00, 0xff}
	for length := range len(whole) + 1 {
		b := slices.Clone(whole[:length])
		for _, at := range places(length) {
			for size := 1; size <= 8; size++ {
				n, ok := octet.At(b, at, size)
				want := at >= 0 && at <= length && length-at >= size
				if ok != want || !ok && n != 0 {
					t.Fatalf("At(%x, %d, %d) = %x, %t", b, at, size, n, ok)
				}
				if ok && !bytes.Equal(digits(n, size), b[at:at+size]) {
					t.Fatalf("At(%x, %d, %d) = %x", b, at, size, n)
				}
				if ok && size < 8 && n > greatest(size) {
					t.Fatalf("At(%x, %d, %d) = %x is too great", b, at, size, n)
				}
			}
			for _, size := range noSizes {
				if n, ok := octet.At(b, at, size); n != 0 || ok {
					t.Fatalf("At(%x, %d, %d) = %x, %t", b, at, size, n, ok)
				}
			}
		}
		if !bytes.Equal(b, whole[:length]) {
			t.Fatalf("At changed the bytes: %x", b)
		}
	}
	if n, ok := octet.At([]byte{0, 7}, 0, 2); n != 7 || !ok {
		t.Errorf("the example: %x, %t", n, ok)
	}
	if n, ok := octet.At(nil, 0, 1); n != 0 || ok {
		t.Errorf("of nothing: %x, %t", n, ok)
	}
}

// putError is what the chapter's order of errors says of a call of Put.
func putError(length, at, size int, n uint64) api.Errno {
	if size < 1 || size > 8 || at < 0 {
		return api.ErrArg
	}
	if n > greatest(size) {
		return api.ErrRange
	}
	if at > length || length-at < size {
		return api.ErrShort
	}
	return api.OK
}

// checkPut holds one call of Put against what has to come of it, and tells which error that is.
func checkPut(t *testing.T, b []byte, at, size int, n uint64) api.Errno {
	given := slices.Clone(b)
	changed, e := octet.Put(b, at, size, n)
	if want := putError(len(b), at, size, n); e != want {
		t.Fatalf("Put(%x, %d, %d, %x): %d; want %d", given, at, size, n, e, want)
	}
	if e != api.OK {
		if changed != nil {
			t.Fatalf("Put(%x, %d, %d, %x) = %x, %d", given, at, size, n, changed, e)
		}
		return e
	}
	if !bytes.Equal(changed, slices.Concat(given[:at], digits(n, size), given[at+size:])) {
		t.Fatalf("Put(%x, %d, %d, %x) = %x", given, at, size, n, changed)
	}
	if m, ok := octet.At(changed, at, size); m != n || !ok {
		t.Fatalf("Put(%x, %d, %d, %x) is there %x, %t", given, at, size, n, m, ok)
	}
	for i := range changed {
		changed[i]++
	}
	if !bytes.Equal(b, given) {
		t.Fatalf("Put(%x, %d, %d, %x) shares its memory", given, at, size, n)
	}
	return e
}

// P3.3, P3.6: Put changes nothing but its place, in new memory, and what it put is there; errors come in their order.
func TestPut(t *testing.T) {
	whole := []byte{0xfe, 0xdc, 0xba, 0x98, 0x76, 0x54, 0x32, 0x10, 0x01, 0x80, 0x00, 0xff}
	sizes := append([]int{1, 2, 3, 4, 5, 6, 7, 8}, noSizes...)
	ns := []uint64{0, 1, 255, 256, 0x8000, 0xffff, 0x10000, 0xffffff, 1 << 24, 1<<32 - 1, 1 << 32, 1<<40 - 1, 1 << 40, 1<<48 - 1, 1 << 48, 1<<56 - 1, 1 << 56, 0x0102030405060708, math.MaxUint64}
	seen := map[api.Errno]int{}
	for length := range len(whole) + 1 {
		for _, at := range places(length) {
			for _, size := range sizes {
				for _, n := range ns {
					seen[checkPut(t, whole[:length:length], at, size, n)]++
				}
			}
		}
	}
	for _, e := range []api.Errno{api.OK, api.ErrArg, api.ErrRange, api.ErrShort} {
		if seen[e] == 0 {
			t.Errorf("no call that answers %d", e)
		}
	}
}

// P3.3: the chapter's example, and several things wrong at once.
func TestPutByHand(t *testing.T) {
	for _, c := range []struct {
		b        []byte
		at, size int
		n        uint64
		want     []byte
		e        api.Errno
	}{
		{[]byte{0, 0}, 1, 1, 7, []byte{0, 7}, api.OK},
		{[]byte{1, 2, 3, 4}, 1, 2, 0x0506, []byte{1, 5, 6, 4}, api.OK},
		{[]byte{1, 2, 3, 4}, 2, 2, 0, []byte{1, 2, 0, 0}, api.OK},
		{[]byte{1, 2, 3, 4}, 3, 2, 0, nil, api.ErrShort},
		{[]byte{1, 2, 3, 4}, 4, 1, 0, nil, api.ErrShort},
		{[]byte{1, 2, 3, 4}, 3, 2, 65536, nil, api.ErrRange},
		{[]byte{1, 2, 3, 4}, -1, 2, 65536, nil, api.ErrArg},
		{[]byte{1, 2, 3, 4}, -1, 1, 0, nil, api.ErrArg},
		{[]byte{1, 2, 3, 4}, 0, 0, 0, nil, api.ErrArg},
		{[]byte{1, 2, 3, 4}, 9, 9, math.MaxUint64, nil, api.ErrArg},
		{[]byte{1, 2, 3, 4}, math.MaxInt, 8, math.MaxUint64, nil, api.ErrShort},
		{[]byte{1, 2, 3, 4}, math.MaxInt, 7, math.MaxUint64, nil, api.ErrRange},
		{nil, 0, 1, 0, nil, api.ErrShort},
		{nil, 0, 1, 256, nil, api.ErrRange},
		{nil, 0, -1, 256, nil, api.ErrArg},
	} {
		if b, e := octet.Put(c.b, c.at, c.size, c.n); !bytes.Equal(b, c.want) || e != c.e {
			t.Errorf("Put(%x, %d, %d, %x) = %x, %d; want %x, %d", c.b, c.at, c.size, c.n, b, e, c.want, c.e)
		}
	}
}

// P3.4, P3.5: Unsigned tells as what a signed number stands, which Signed leads back; what is none of that size is ErrRange.
func TestUnsigned(t *testing.T) {
	for size := 1; size <= 8; size++ {
		half := new(big.Int).Rsh(power(size), 1)
		lowest := new(big.Int).Neg(half)
		for _, n := range signs() {
			whole := big.NewInt(n)
			u, e := octet.Unsigned(n, size)
			if whole.Cmp(lowest) < 0 || whole.Cmp(half) >= 0 {
				if u != 0 || e != api.ErrRange {
					t.Fatalf("Unsigned(%d, %d) = %x, %d", n, size, u, e)
				}
				continue
			}
			stands := new(big.Int).Set(whole)
			if n < 0 {
				stands.Add(stands, power(size))
			}
			if e != api.OK || stands.Cmp(new(big.Int).SetUint64(u)) != 0 {
				t.Fatalf("Unsigned(%d, %d) = %x, %d; want %s", n, size, u, e, stands)
			}
			if back, e := octet.Signed(u, size); back != n || e != api.OK {
				t.Fatalf("Unsigned(%d, %d) leads back to %d, %d", n, size, back, e)
			}
		}
	}
}

// P3.4, P3.5: Signed tells the number that stands so, which Unsigned leads back; what does not fit is ErrRange.
func TestSigned(t *testing.T) {
	for size := 1; size <= 8; size++ {
		for of := 1; of <= 8; of++ {
			for _, u := range numbers(of) {
				n, e := octet.Signed(u, size)
				if u > greatest(size) {
					if n != 0 || e != api.ErrRange {
						t.Fatalf("Signed(%x, %d) = %d, %d", u, size, n, e)
					}
					continue
				}
				stands := new(big.Int).SetUint64(u)
				if u > greatest(size)/2 {
					stands.Sub(stands, power(size))
				}
				if e != api.OK || stands.Cmp(big.NewInt(n)) != 0 {
					t.Fatalf("Signed(%x, %d) = %d, %d; want %s", u, size, n, e, stands)
				}
				if back, e := octet.Unsigned(n, size); back != u || e != api.OK {
					t.Fatalf("Signed(%x, %d) leads back to %x, %d", u, size, back, e)
				}
			}
		}
	}
}

// P3.4: the chapter's examples, the least and the greatest number of each size, and their neighbours.
func TestSignedByHand(t *testing.T) {
	for _, c := range []struct {
		n    int64
		size int
		u    uint64
		e    api.Errno
	}{
		{-6, 1, 0xfa, api.OK}, {0x80, 1, 0, api.ErrRange}, {0, 1, 0, api.OK}, {-1, 1, 0xff, api.OK},
		{127, 1, 0x7f, api.OK}, {-128, 1, 0x80, api.OK}, {-129, 1, 0, api.ErrRange}, {255, 1, 0, api.ErrRange}, {256, 1, 0, api.ErrRange}, {-256, 1, 0, api.ErrRange},
		{-1, 2, 0xffff, api.OK}, {32767, 2, 0x7fff, api.OK}, {-32768, 2, 0x8000, api.OK}, {32768, 2, 0, api.ErrRange}, {-32769, 2, 0, api.ErrRange},
		{8388607, 3, 0x7fffff, api.OK}, {-8388608, 3, 0x800000, api.OK}, {8388608, 3, 0, api.ErrRange}, {-8388609, 3, 0, api.ErrRange},
		{1<<31 - 1, 4, 0x7fffffff, api.OK}, {-1 << 31, 4, 0x80000000, api.OK}, {1 << 31, 4, 0, api.ErrRange}, {-1<<31 - 1, 4, 0, api.ErrRange},
		{1<<39 - 1, 5, 0x7fffffffff, api.OK}, {-1 << 39, 5, 0x8000000000, api.OK}, {1 << 39, 5, 0, api.ErrRange}, {-1<<39 - 1, 5, 0, api.ErrRange},
		{1<<47 - 1, 6, 0x7fffffffffff, api.OK}, {-1 << 47, 6, 0x800000000000, api.OK}, {1 << 47, 6, 0, api.ErrRange}, {-1<<47 - 1, 6, 0, api.ErrRange},
		{1<<55 - 1, 7, 0x7fffffffffffff, api.OK}, {-1 << 55, 7, 0x80000000000000, api.OK}, {1 << 55, 7, 0, api.ErrRange}, {-1<<55 - 1, 7, 0, api.ErrRange},
		{most, 8, 0x7fffffffffffffff, api.OK}, {least, 8, 0x8000000000000000, api.OK}, {-1, 8, math.MaxUint64, api.OK},
		{most, 7, 0, api.ErrRange}, {least, 7, 0, api.ErrRange}, {least, 1, 0, api.ErrRange},
	} {
		if u, e := octet.Unsigned(c.n, c.size); u != c.u || e != c.e {
			t.Errorf("Unsigned(%d, %d) = %x, %d; want %x, %d", c.n, c.size, u, e, c.u, c.e)
		}
		if c.e != api.OK {
			continue
		}
		if n, e := octet.Signed(c.u, c.size); n != c.n || e != api.OK {
			t.Errorf("Signed(%x, %d) = %d, %d; want %d", c.u, c.size, n, e, c.n)
		}
	}
	for size := 1; size < 8; size++ {
		for _, u := range []uint64{greatest(size) + 1, 1 << 63, math.MaxUint64} {
			if n, e := octet.Signed(u, size); n != 0 || e != api.ErrRange {
				t.Errorf("Signed(%x, %d) = %d, %d", u, size, n, e)
			}
		}
	}
}

// P3.4: a size that is none is told first, whether the number would fit or not.
func TestSignedNoSize(t *testing.T) {
	for _, size := range noSizes {
		for _, n := range signs() {
			if u, e := octet.Unsigned(n, size); u != 0 || e != api.ErrArg {
				t.Fatalf("Unsigned(%d, %d) = %x, %d", n, size, u, e)
			}
			if m, e := octet.Signed(uint64(n), size); m != 0 || e != api.ErrArg {
				t.Fatalf("Signed(%x, %d) = %d, %d", uint64(n), size, m, e)
			}
		}
	}
}

// P3.6: of two rows of the same sizes that one is behind whose number is greater where they first differ.
func TestOrder(t *testing.T) {
	chance := rand.New(rand.NewPCG(7, 256))
	differ := map[int]int{}
	for _, r := range rows() {
		for i, size := range r.sizes {
			for _, n := range numbers(size) {
				l := slices.Clone(r.l)
				l[i] = n
				for j := i + 1; j < len(l); j++ { // what stands behind may be anything
					of := numbers(r.sizes[j])
					l[j] = of[chance.IntN(len(of))]
				}
				b, e := octet.Lay(r.sizes, l)
				if want := slices.Compare(l, r.l); bytes.Compare(b, r.b) != want || e != api.OK {
					t.Fatalf("%x and %x of %v stand as %x and %x, %d", l, r.l, r.sizes, b, r.b, e)
				} else {
					differ[want]++
				}
			}
		}
	}
	if differ[-1] == 0 || differ[0] == 0 || differ[1] == 0 {
		t.Errorf("orders that were seen: %v", differ)
	}
}
