package smear_test

import (
	"math"
	"math/rand/v2"
	"slices"
	"testing"

	"ephemeris/api"
	"ephemeris/smear"
)

// row is so many leaps from At on, as near to each other as may be, all inserted.
func row(at int64, many int) []api.Leap {
	list := make([]api.Leap, many)
	for i := range list {
		list[i] = api.Leap{At: at + int64(i)*2*day, Kind: 1}
	}
	return list
}

// checkRefused holds that New refuses a list, and does not change it.
func checkRefused(t *testing.T, l []api.Leap, want api.Errno) {
	t.Helper()
	kept := slices.Clone(l)
	if x, e := smear.New(l); x != nil || e != want {
		t.Fatalf("New(%v) = %p, %d; want none, %d", l, x, e, want)
	}
	if !slices.Equal(l, kept) {
		t.Fatalf("New made %v of %v", l, kept)
	}
}

// checkMay holds New of a list against whether it may be.
func checkMay(t *testing.T, may bool, l ...api.Leap) {
	t.Helper()
	if !may {
		checkRefused(t, l, api.ErrArg)
		return
	}
	x, m := made(t, l...)
	checkList(t, x, m)
}

// P15.1: of no leaps, of one, of 32, of 33, and of 33 that are no leaps: that they are too many is told first.
func TestNewMany(t *testing.T) {
	for _, l := range [][]api.Leap{nil, {}, row(day, 1), row(day, 2), row(day, 31), row(day, 32), row(most-62*day, 32)} {
		x, m := made(t, l...)
		checkList(t, x, m)
	}
	for _, l := range [][]api.Leap{row(day, 33), row(day, 34), row(day, 64), row(day, 289), row(0, 33), row(-1, 33), row(most, 33), make([]api.Leap, 33), make([]api.Leap, 1<<16)} {
		checkRefused(t, l, api.ErrFull)
	}
	for _, l := range [][]api.Leap{row(0, 32), row(day-1, 32), row(most-62*day+1, 32), make([]api.Leap, 32), make([]api.Leap, 1)} {
		checkRefused(t, l, api.ErrArg)
	}
}

// P15.1: an At of a Day, of one below it, of 0, below 0; of MaxTime, of one above it; the ends of what an int64 holds.
func TestNewAt(t *testing.T) {
	for _, kind := range []int{1, -1} {
		for _, way := range []struct {
			at  int64
			may bool
		}{
			{86_400_000_000_000, true}, {86_400_000_000_001, true}, {86_399_999_999_999, false}, {halfDay, false}, {1, false}, {0, false},
			{-1, false}, {-day, false}, {-most, false}, {math.MinInt64, false}, {math.MinInt64 + 1, false}, {math.MinInt64 + day, false},
			{4_611_686_018_427_387_903, true}, {4_611_686_018_427_387_904, true}, {4_611_686_018_427_387_905, false},
			{most + halfDay, false}, {most + day, false}, {math.MaxInt64 - 2*day, false}, {math.MaxInt64 - 1, false}, {math.MaxInt64, false},
		} {
			checkMay(t, way.may, api.Leap{At: way.at, Kind: kind})
		}
	}
}

// P15.1: two leaps just two Days apart, one nanosecond less, one more, at the same, in the wrong order; near the beginning and near MaxTime.
func TestNewApart(t *testing.T) {
	for _, way := range []struct {
		first, next int64
		may         bool
	}{
		{day, 3 * day, true}, {day, 3*day + 1, true}, {day, 3*day - 1, false}, {day, 2 * day, false}, {day, day + 1, false}, {day, day, false},
		{3 * day, day, false}, {10 * day, 8 * day, false}, {10 * day, 12 * day, true}, {10 * day, 11 * day, false}, {10*day + 1, 12 * day, false},
		{day, most, true}, {most - 2*day, most, true}, {most - 2*day - 1, most, true}, {most - 2*day + 1, most, false}, {most, most, false}, {most, day, false},
		{most - 2*day, most + 1, false}, {most, most + 2*day, false}, {most, math.MaxInt64, false}, {most, math.MinInt64, false}, {most, most - 2*day, false},
		{day, math.MaxInt64, false}, {day, math.MinInt64, false}, {day, -day, false}, {day, 0, false}, {0, 2 * day, false}, {day - 1, 3 * day, false},
		{math.MaxInt64, math.MinInt64, false}, {math.MaxInt64, math.MaxInt64, false}, {math.MinInt64, day, false}, {math.MaxInt64, 2*day - 1 + math.MinInt64, false},
		{math.MinInt64, math.MinInt64, false}, {-day, day, false},
	} {
		for _, kinds := range [][2]int{{1, 1}, {1, -1}, {-1, 1}, {-1, -1}} {
			checkMay(t, way.may, api.Leap{At: way.first, Kind: kinds[0]}, api.Leap{At: way.next, Kind: kinds[1]})
		}
	}
}

// P15.1: a Kind of 1, of -1, and all others, also such as are one of these in a narrower number; the ends of what it can hold.
func TestNewKind(t *testing.T) {
	for _, way := range []struct {
		kind int
		may  bool
	}{
		{1, true}, {-1, true}, {0, false}, {2, false}, {-2, false}, {3, false}, {-3, false}, {10, false}, {255, false}, {256, false}, {257, false}, {-257, false},
		{65_535, false}, {65_537, false}, {1<<32 - 1, false}, {1<<32 + 1, false}, {-1<<32 - 1, false}, {-1<<32 + 1, false}, {1 << 62, false},
		{math.MaxInt, false}, {math.MaxInt - 1, false}, {math.MinInt, false}, {math.MinInt + 1, false},
	} {
		for many := 1; many <= 32; many += 5 {
			for place := range many {
				l := row(day, many)
				l[place].Kind = way.kind
				checkMay(t, way.may, l...)
			}
		}
	}
}

// P15.1: one leap of many that may not be where it stands, at each place; too near by just a nanosecond.
func TestNewPlaces(t *testing.T) {
	for many := 2; many <= 32; many += 3 {
		for place := range many {
			for _, by := range []int64{-1, 1, -day, day, -2 * day, 2 * day, -most, math.MinInt64} {
				l := row(day, many)
				l[place].At += by
				last := place == many-1 && by > 0 // only behind all others there is room
				checkMay(t, last, l...)
			}
		}
	}
}

// P15.1: leaps of chance, one of them moved: against what the words say.
func TestNew(t *testing.T) {
	chance := rand.New(rand.NewPCG(151, 2))
	may, not := 0, 0
	for range 5000 {
		l := someLeaps(chance, 1+chance.IntN(32))
		y := &l[chance.IntN(len(l))]
		y.At += (chance.Int64() >> chance.IntN(63)) * int64(1-chance.IntN(2)*2)
		good := l[0].At >= day && l[len(l)-1].At <= most
		for i := range l[1:] {
			// What is apart is asked only of times, so that it is an int64.
			good = good && l[i].At >= 0 && l[i+1].At >= 0 && l[i+1].At-l[i].At >= 2*day
		}
		checkMay(t, good, l...)
		if good {
			may++
		} else {
			not++
		}
	}
	if may < 500 || not < 500 {
		t.Errorf("%d may be, %d not", may, not)
	}
}

// P15.1: the list of none, of one, of many, each time in new memory.
func TestList(t *testing.T) {
	chance := rand.New(rand.NewPCG(151, 3))
	for many := range 33 {
		x, m := made(t, someLeaps(chance, many)...)
		checkList(t, x, m)
		for _, spoilt := range [][]api.Leap{x.List(), x.List()} {
			for i := range spoilt {
				spoilt[i] = api.Leap{At: most, Kind: 7}
			}
			if grown := append(spoilt, api.Leap{At: 5, Kind: 5}); len(grown) != many+1 {
				t.Fatalf("%d leaps", len(grown))
			}
			checkModel(t, x, m, nearLeaps(chance, m)...)
		}
	}
}

// P15.1: the table stays when the list that was handed to New is changed behind it, also where there is room in it.
func TestHandedIn(t *testing.T) {
	chance := rand.New(rand.NewPCG(151, 4))
	for many := range 33 {
		l := append(make([]api.Leap, 0, 40), someLeaps(chance, many)...)
		x, m := made(t, l...)
		other, _ := made(t, l...)
		for i := range l[:cap(l)] {
			l[:cap(l)][i] = api.Leap{At: day, Kind: -3}
		}
		checkModel(t, x, m, nearLeaps(chance, m)...)
		checkModel(t, other, m, ends()...)
		if x == other {
			t.Fatal("New is twice the very one")
		}
	}
}

// P15.1: tables made of each other's lists have the same leaps.
func TestListAgain(t *testing.T) {
	chance := rand.New(rand.NewPCG(151, 5))
	for many := range 33 {
		x, m := made(t, someLeaps(chance, many)...)
		other, _ := made(t, x.List()...)
		checkModel(t, other, m, nearLeaps(chance, m)...)
	}
}
