package poll_test

import (
	"math"
	"slices"
	"testing"

	"ephemeris/api"
	"ephemeris/poll"
)

// checkNew holds one New, and all that its poll tells, if there is one.
func checkNew(t *testing.T, least, greatest int, first int64, want api.Errno) {
	t.Helper()
	x, e := poll.New(least, greatest, first)
	if e != want || (x != nil) != (want == api.OK) {
		t.Fatalf("New(%d, %d, %d) = %p, %d; want %d", least, greatest, first, x, e, want)
	}
	if x != nil {
		checkHolds(t, x, 0, least, least, first)
	}
}

// P17.1: by hand, which exponents may be.
func TestNewByHand(t *testing.T) {
	for _, way := range []struct {
		least, greatest int
		e               api.Errno
	}{
		{4, 4, api.OK}, {4, 5, api.OK}, {4, 10, api.OK}, {5, 5, api.OK}, {6, 9, api.OK}, {9, 10, api.OK}, {10, 10, api.OK},
		{3, 3, api.ErrArg}, {3, 4, api.ErrArg}, {3, 10, api.ErrArg}, {4, 3, api.ErrArg}, {4, 11, api.ErrArg}, {10, 11, api.ErrArg}, {11, 11, api.ErrArg}, {11, 10, api.ErrArg},
		{5, 4, api.ErrArg}, {10, 4, api.ErrArg}, {10, 9, api.ErrArg}, {0, 0, api.ErrArg}, {0, 10, api.ErrArg}, {4, 0, api.ErrArg}, {-4, 4, api.ErrArg}, {-10, -4, api.ErrArg},
		{math.MinInt, 10, api.ErrArg}, {4, math.MaxInt, api.ErrArg}, {math.MinInt, math.MaxInt, api.ErrArg}, {math.MaxInt, math.MinInt, api.ErrArg}, {4, math.MinInt, api.ErrArg}, {math.MaxInt, 10, api.ErrArg},
	} {
		for _, first := range []int64{0, 1, 100, most - 1, most} {
			checkNew(t, way.least, way.greatest, first, way.e)
		}
		for _, first := range []int64{-1, most + 1, math.MinInt64, math.MaxInt64} {
			checkNew(t, way.least, way.greatest, first, api.ErrArg)
		}
	}
}

// P17.1: all exponents with all others, also such as have the last bits of one that may be.
func TestNewOfAll(t *testing.T) {
	mays := []int{4, 5, 6, 7, 8, 9, 10}
	list := append([]int{math.MinInt, math.MinInt32, -7, -4, -1, 0, 1, 2, 3, 11, 12, 16, 256 + 6, 65536 + 6, math.MaxInt32, math.MaxInt}, mays...)
	for shift := 31; shift < 64; shift++ {
		list = append(list, int(uint64(1)<<shift+6))
	}
	many := 0
	for _, least := range list {
		for _, greatest := range list {
			want := api.ErrArg
			if from := slices.Index(mays, least); from >= 0 && slices.Contains(mays[from:], greatest) {
				want = api.OK
				many++
			}
			checkNew(t, least, greatest, 0, want)
			checkNew(t, least, greatest, -1, api.ErrArg)
		}
	}
	if many != 28 {
		t.Errorf("%d pairs may be", many)
	}
}

// P17.1: a new poll's steady is 0, its greatest exponent is most, and no request was sent.
func TestNewFuture(t *testing.T) {
	for least := 4; least <= 10; least++ {
		for greatest := least; greatest <= 10; greatest++ {
			pairOf(t, least, greatest, 100).checkFuture(t)
		}
	}
}
