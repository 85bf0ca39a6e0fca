package fix_test

import (
	"math"
	"math/big"
	"math/rand/v2"
	"testing"

	"ephemeris/api"
	"ephemeris/fix"
)

const (
	most  = math.MaxInt64
	least = math.MinInt64
)

// edges are the numbers at which a sign, a word or a limit ends.
func edges() []int64 {
	list := []int64{0}
	for _, n := range []int64{1, 2, 3, 7, 10, 1000, 500_000, api.Second, 1<<31 - 1, 1 << 31, 1<<32 - 1, 1 << 32, 1<<32 + 1,
		3_037_000_499, 3_037_000_500, api.MaxSpan, 1<<61 - 1, 1 << 61, api.MaxTime - 1, api.MaxTime, api.MaxTime + 1, most - 1, most} {
		list = append(list, n, -n)
	}
	return append(list, least)
}

// numbers are the edges and some of every length between them, the same ones in every run.
func numbers() []int64 {
	list := edges()
	chance := rand.New(rand.NewPCG(1, 900))
	for length := range 64 {
		list = append(list, int64(chance.Uint64()>>length), -int64(chance.Uint64()>>length))
	}
	return list
}

// fits is what a call that answers n exactly has to tell.
func fits(n *big.Int) (int64, api.Errno) {
	if !n.IsInt64() {
		return 0, api.ErrRange
	}
	return n.Int64(), api.OK
}

// next is the int64 that is next to n.
func next(n *big.Int) int64 {
	if n.IsInt64() {
		return n.Int64()
	}
	if n.Sign() < 0 {
		return least
	}
	return most
}

// quotients are a b / c, down and up, by the remainder that is from 0 to c - 1.
func quotients(a, b, c int64) (down, up *big.Int) {
	down, rest := new(big.Int), new(big.Int)
	n := new(big.Int).Mul(big.NewInt(a), big.NewInt(b))
	down.DivMod(n, big.NewInt(c), rest)
	if rest.Sign() == 0 {
		return down, down
	}
	return down, new(big.Int).Add(down, big.NewInt(1))
}

// P1.1: what is an int64 is told as it is, all else is ErrRange and 0.
func TestAddSubMul(t *testing.T) {
	for _, c := range []struct {
		name  string
		call  func(a, b int64) (int64, api.Errno)
		exact func(z, a, b *big.Int) *big.Int
	}{
		{"Add", fix.Add, (*big.Int).Add},
		{"Sub", fix.Sub, (*big.Int).Sub},
		{"Mul", fix.Mul, (*big.Int).Mul},
	} {
		for _, a := range numbers() {
			for _, b := range numbers() {
				want, wantE := fits(c.exact(new(big.Int), big.NewInt(a), big.NewInt(b)))
				if n, e := c.call(a, b); n != want || e != wantE {
					t.Fatalf("%s(%d, %d) = %d, %d; want %d, %d", c.name, a, b, n, e, want, wantE)
				}
			}
		}
	}
}

// P1.1: what is written out here needs no other arithmetic to be believed.
func TestAddSubMulByHand(t *testing.T) {
	for _, c := range []struct {
		name    string
		call    func(a, b int64) (int64, api.Errno)
		a, b, n int64
		e       api.Errno
	}{
		{"Add", fix.Add, 3, -4, -1, api.OK},
		{"Add", fix.Add, most, 0, most, api.OK},
		{"Add", fix.Add, most, 1, 0, api.ErrRange},
		{"Add", fix.Add, least, -1, 0, api.ErrRange},
		{"Add", fix.Add, least, least, 0, api.ErrRange},
		{"Add", fix.Add, least, most, -1, api.OK},
		{"Sub", fix.Sub, 3, 4, -1, api.OK},
		{"Sub", fix.Sub, -1, most, least, api.OK},
		{"Sub", fix.Sub, -2, most, 0, api.ErrRange},
		{"Sub", fix.Sub, 0, least, 0, api.ErrRange},
		{"Sub", fix.Sub, -1, least, most, api.OK},
		{"Sub", fix.Sub, least, least, 0, api.OK},
		{"Mul", fix.Mul, 3, -4, -12, api.OK},
		{"Mul", fix.Mul, least, 1, least, api.OK},
		{"Mul", fix.Mul, least, -1, 0, api.ErrRange},
		{"Mul", fix.Mul, -1, least, 0, api.ErrRange},
		{"Mul", fix.Mul, 0, least, 0, api.OK},
		{"Mul", fix.Mul, 1 << 32, 1 << 31, 0, api.ErrRange},
		{"Mul", fix.Mul, 1 << 32, -1 << 31, least, api.OK},
		{"Mul", fix.Mul, 1 << 32, 1 << 32, 0, api.ErrRange},
		{"Mul", fix.Mul, least, least, 0, api.ErrRange},
	} {
		if n, e := c.call(c.a, c.b); n != c.n || e != c.e {
			t.Errorf("%s(%d, %d) = %d, %d; want %d, %d", c.name, c.a, c.b, n, e, c.n, c.e)
		}
	}
}

// P1.1: a sum that is no int64 stays at the end that it left by.
func TestSat(t *testing.T) {
	for _, a := range numbers() {
		for _, b := range numbers() {
			sum := next(new(big.Int).Add(big.NewInt(a), big.NewInt(b)))
			if n := fix.AddSat(a, b); n != sum {
				t.Fatalf("AddSat(%d, %d) = %d; want %d", a, b, n, sum)
			}
			rest := next(new(big.Int).Sub(big.NewInt(a), big.NewInt(b)))
			if n := fix.SubSat(a, b); n != rest {
				t.Fatalf("SubSat(%d, %d) = %d; want %d", a, b, n, rest)
			}
		}
	}
	if fix.AddSat(most, 1) != most || fix.AddSat(least, -1) != least || fix.SubSat(0, least) != most || fix.SubSat(-2, most) != least {
		t.Error("the ends")
	}
}

// P1.2, P1.4: the quotient is that of a division whose remainder is from 0 to c - 1, whatever a b is.
func TestMulDiv(t *testing.T) {
	list := numbers()
	for _, a := range list {
		for _, b := range edges() {
			for _, c := range list {
				if c <= 0 {
					continue
				}
				down, up := quotients(a, b, c)
				want, wantE := fits(down)
				if n, e := fix.MulDiv(a, b, c); n != want || e != wantE {
					t.Fatalf("MulDiv(%d, %d, %d) = %d, %d; want %d, %d", a, b, c, n, e, want, wantE)
				}
				want, wantE = fits(up)
				if n, e := fix.MulDivUp(a, b, c); n != want || e != wantE {
					t.Fatalf("MulDivUp(%d, %d, %d) = %d, %d; want %d, %d", a, b, c, n, e, want, wantE)
				}
			}
		}
	}
}

// P1.2: a c that is not above 0 is ErrArg, also where the quotient would be none.
func TestMulDivArg(t *testing.T) {
	for _, a := range edges() {
		for _, b := range edges() {
			for _, c := range []int64{0, -1, -2, -api.Second, -most, least} {
				if n, e := fix.MulDiv(a, b, c); n != 0 || e != api.ErrArg {
					t.Fatalf("MulDiv(%d, %d, %d) = %d, %d", a, b, c, n, e)
				}
				if n, e := fix.MulDivUp(a, b, c); n != 0 || e != api.ErrArg {
					t.Fatalf("MulDivUp(%d, %d, %d) = %d, %d", a, b, c, n, e)
				}
			}
		}
	}
}

// P1.2: the chapter's examples, and quotients that one less or more takes out of the range.
func TestMulDivByHand(t *testing.T) {
	for _, c := range []struct {
		a, b, c    int64
		down, up   int64
		downE, upE api.Errno
		what       string
	}{
		{-7, 1, 2, -4, -3, api.OK, api.OK, "example"},
		{1 << 62, 4, 8, 1 << 61, 1 << 61, api.OK, api.OK, "example"},
		{1 << 62, 4, 2, 0, 0, api.ErrRange, api.ErrRange, "example"},
		{7, 1, 2, 3, 4, api.OK, api.OK, "above 0"},
		{-7, -1, 2, 3, 4, api.OK, api.OK, "two signs"},
		{6, -1, 3, -2, -2, api.OK, api.OK, "no rest"},
		{-1, 1, most, -1, 0, api.OK, api.OK, "just below 0"},
		{1, 1, most, 0, 1, api.OK, api.OK, "just above 0"},
		{0, -1, 3, 0, 0, api.OK, api.OK, "0 has no sign"},
		{most, most, most, most, most, api.OK, api.OK, "two words"},
		{least, most, most, least, least, api.OK, api.OK, "two words"},
		{least, least, most, 0, 0, api.ErrRange, api.ErrRange, "just above 2^63"},
		{1<<62 + 1, 4, 5, 3689348814741910324, 3689348814741910324, api.OK, api.OK, "no rest in two words"},
		{most, 3, 3, most, most, api.OK, api.OK, "the last one"},
		{1 << 61, 37, 9, 0, 0, api.ErrRange, api.ErrRange, "above the last one"},
		{7686143364045646506, 6, 5, most, 0, api.OK, api.ErrRange, "2^63 - 1 and a fifth"},
		{-7686143364045646506, 6, 5, least, -most, api.OK, api.OK, "its opposite"},
		{7686143364045646507, 6, 5, 0, 0, api.ErrRange, api.ErrRange, "2^63 and two fifths"},
		{7686143364045646507, -6, 5, 0, least, api.ErrRange, api.OK, "its opposite"},
		{8384883669867978007, 11, 5, 0, 0, api.ErrRange, api.ErrRange, "2^64 - 1 and two fifths"},
		{-8384883669867978007, 11, 5, 0, 0, api.ErrRange, api.ErrRange, "its opposite"},
		{least, -1, 1, 0, 0, api.ErrRange, api.ErrRange, "2^63"},
		{least, 1, 1, least, least, api.OK, api.OK, "-2^63"},
		{1 << 62, 4, 1, 0, 0, api.ErrRange, api.ErrRange, "2^64, whose low word is 0"},
	} {
		if n, e := fix.MulDiv(c.a, c.b, c.c); n != c.down || e != c.downE {
			t.Errorf("MulDiv(%d, %d, %d) = %d, %d: %s", c.a, c.b, c.c, n, e, c.what)
		}
		if n, e := fix.MulDivUp(c.a, c.b, c.c); n != c.up || e != c.upE {
			t.Errorf("MulDivUp(%d, %d, %d) = %d, %d: %s", c.a, c.b, c.c, n, e, c.what)
		}
	}
}

// P1.4: up is down's opposite of the opposite number, if these are int64s.
func TestMulDivMirror(t *testing.T) {
	list := numbers()
	for _, a := range list {
		if a == least {
			continue
		}
		for _, b := range list {
			for _, c := range []int64{1, 2, 3, 7, 1000, api.Second - api.MaxSlew, api.Second, api.MaxTime, most} {
				down, downE := fix.MulDiv(-a, b, c)
				up, upE := fix.MulDivUp(a, b, c)
				if downE == api.OK && upE == api.OK && up != -down {
					t.Fatalf("MulDivUp(%d, %d, %d) = %d, MulDiv of its opposite %d", a, b, c, up, down)
				}
				// Only -2^63 has no opposite that is an int64.
				if downE != upE && (downE != api.OK || down != least) && (upE != api.OK || up != least) {
					t.Fatalf("MulDivUp(%d, %d, %d): %d, MulDiv of its opposite %d", a, b, c, upE, downE)
				}
			}
		}
	}
}

// P1.3: the root's square is not above n, that of the next number is.
func TestSqrt(t *testing.T) {
	check := func(n uint64) {
		root := fix.Sqrt(n)
		whole, square := new(big.Int).SetUint64(n), new(big.Int).SetUint64(root)
		square.Mul(square, square)
		if square.Cmp(whole) > 0 {
			t.Fatalf("Sqrt(%d) = %d is too great", n, root)
		}
		after := new(big.Int).SetUint64(root)
		after.Add(after, big.NewInt(1))
		if after.Mul(after, after).Cmp(whole) <= 0 {
			t.Fatalf("Sqrt(%d) = %d is too little", n, root)
		}
	}
	for n := range uint64(5000) {
		check(n)
	}
	for length := range 33 {
		for _, root := range []uint64{1 << length, 1<<length - 1, 1<<length + 1} {
			if root <= 1<<32-1 {
				check(root * root)
				check(root*root - 1)
				check(root*root + 1)
			}
		}
	}
	chance := rand.New(rand.NewPCG(2, 900))
	for length := range 64 {
		check(chance.Uint64() >> length)
		check(math.MaxUint64 >> length)
	}
	for n, want := range map[uint64]uint64{0: 0, 1: 1, 15: 3, 16: 4, math.MaxUint64: 1<<32 - 1,
		18446744065119617024: 1<<32 - 2, 18446744065119617025: 1<<32 - 1} {
		if root := fix.Sqrt(n); root != want {
			t.Errorf("Sqrt(%d) = %d; want %d", n, root, want)
		}
	}
}

// P1.3: Abs has no sign, -2^63 has what is next to its own.
func TestAbs(t *testing.T) {
	for a, want := range map[int64]int64{0: 0, 3: 3, -3: 3, most: most, least: most, least + 1: most, least + 2: most - 1} {
		if n := fix.Abs(a); n != want {
			t.Errorf("Abs(%d) = %d; want %d", a, n, want)
		}
	}
	for _, a := range numbers() {
		if want := next(new(big.Int).Abs(big.NewInt(a))); fix.Abs(a) != want {
			t.Errorf("Abs(%d) = %d; want %d", a, fix.Abs(a), want)
		}
	}
}

// P1.3: lo is asked ahead of hi, also where hi is below lo.
func TestClamp(t *testing.T) {
	for _, c := range []struct{ a, lo, hi, want int64 }{
		{5, 0, 3, 3}, {-5, 0, 3, 0}, {2, 0, 3, 2}, {0, 0, 3, 0}, {3, 0, 3, 3}, {4, 4, 4, 4},
		{least, -1, 1, -1}, {most, -1, 1, 1}, {least, least, most, least}, {most, least, most, most},
		{5, 10, 0, 10}, {15, 10, 0, 0}, {10, 10, 0, 0}, {-1, 10, 0, 10}, {0, most, least, most},
	} {
		if n := fix.Clamp(c.a, c.lo, c.hi); n != c.want {
			t.Errorf("Clamp(%d, %d, %d) = %d; want %d", c.a, c.lo, c.hi, n, c.want)
		}
	}
}

// P1.5: what is added and taken away again is as it was; sums that stay are one however they are made.
func TestSumsThatStay(t *testing.T) {
	for _, a := range numbers() {
		for _, b := range edges() {
			sum, e := fix.Add(a, b)
			if e != api.OK {
				continue
			}
			if n, e := fix.Sub(sum, b); n != a || e != api.OK {
				t.Fatalf("%d and %d less %d = %d, %d", a, b, b, n, e)
			}
			for _, c := range edges() {
				left, leftE := fix.Add(sum, c)
				inner, innerE := fix.Add(b, c)
				right, rightE := fix.Add(a, inner)
				if leftE == api.OK && innerE == api.OK && (rightE != api.OK || left != right) {
					t.Fatalf("%d, %d, %d: %d, but %d, %d", a, b, c, left, right, rightE)
				}
			}
		}
	}
}
