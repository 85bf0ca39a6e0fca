package leap_test

import (
	"math"
	"math/rand/v2"
	"testing"

	"ephemeris/api"
)

// labelling is an instant, and its offset, and whether it is inserted.
type labelling struct {
	at       int64
	offset   int
	inserted bool
}

// checkLabels holds all Labels of a list.
func checkLabels(t *testing.T, base int, l []api.Leap, list []labelling) {
	t.Helper()
	for _, expires := range []int64{0, 10 * day, most} { // labels do not hang on it
		x, _ := made(t, expires, base, l...)
		for _, way := range list {
			checkLabel(t, x, way.at, way.offset, way.inserted)
		}
	}
}

// P16.2: by hand, of no leap: the base alone.
func TestLabelOfNone(t *testing.T) {
	for _, base := range []int{-1000, -1, 0, 1, 10, 1000} {
		checkLabels(t, base, nil, []labelling{
			{-most, base, false}, {-day, base, false}, {-1, base, false}, {0, base, false}, {1, base, false}, {day, base, false},
			{most - 1, base, false}, {most, base, false}, {most + 1, base, false},
		})
	}
}

// P16.2: by hand, of a leap of Kind 1: at its At, one ahead and behind, at the At and a second, one ahead of that; far from it.
func TestLabelOfInserted(t *testing.T) {
	for _, base := range []int{-1000, -1, 0, 10, 1000} {
		checkLabels(t, base, []api.Leap{{At: 10 * day, Kind: 1}}, []labelling{
			{-most, base, false}, {-1, base, false}, {0, base, false}, {1, base, false}, {9 * day, base, false}, {10*day - second, base, false},
			{863_999_999_999_999, base, false}, {864_000_000_000_000, base + 1, true}, {864_000_000_000_001, base + 1, true}, {864_000_500_000_000, base + 1, true},
			{864_000_999_999_999, base + 1, true}, {864_001_000_000_000, base + 1, false}, {864_001_000_000_001, base + 1, false}, {11 * day, base + 1, false},
			{most - 1, base + 1, false}, {most, base + 1, false}, {most + 1, base + 1, false},
		})
	}
}

// P16.2: by hand, of a leap of Kind -1: nothing is inserted, and the offset is less from its At on.
func TestLabelOfLeftOut(t *testing.T) {
	for _, base := range []int{-1000, -1, 0, 10, 1000} {
		checkLabels(t, base, []api.Leap{{At: 10 * day, Kind: -1}}, []labelling{
			{-most, base, false}, {-1, base, false}, {0, base, false}, {1, base, false}, {9 * day, base, false}, {10*day - second, base, false},
			{863_999_999_999_999, base, false}, {864_000_000_000_000, base - 1, false}, {864_000_000_000_001, base - 1, false},
			{864_000_999_999_999, base - 1, false}, {864_001_000_000_000, base - 1, false}, {11 * day, base - 1, false},
			{most - 1, base - 1, false}, {most, base - 1, false}, {most + 1, base - 1, false},
		})
	}
}

// P16.2: by hand, labels as numbers, not by an offset: a second that is told twice, one that is told by none.
func TestLabelNumbers(t *testing.T) {
	for _, way := range []struct {
		base, kind int
		at, label  int64
		inserted   bool
	}{
		{10, 1, -1, -10_000_000_001, false}, {10, 1, 0, -10_000_000_000, false}, {10, 1, 10_000_000_000, 0, false},
		{10, 1, 172_799_999_999_999, 172_789_999_999_999, false}, {10, 1, 172_800_000_000_000, 172_789_000_000_000, true},
		{10, 1, 172_800_999_999_999, 172_789_999_999_999, true}, {10, 1, 172_801_000_000_000, 172_790_000_000_000, false},
		{-10, -1, -1, 9_999_999_999, false}, {-10, -1, 0, 10_000_000_000, false}, {-10, -1, 172_799_999_999_999, 172_809_999_999_999, false},
		{-10, -1, 172_800_000_000_000, 172_811_000_000_000, false}, {-10, -1, most, 4_611_686_029_427_387_904, false}, {1000, 1, most, 4_611_685_017_427_387_904, false},
		{1000, 1, -most, -4_611_687_018_427_387_904, false}, {-1000, -1, most, 4_611_687_019_427_387_904, false},
	} {
		x, _ := made(t, 0, way.base, api.Leap{At: 172_800_000_000_000, Kind: way.kind})
		if label, inserted := x.Label(way.at); label != way.label || inserted != way.inserted {
			t.Errorf("of Base %d, Kind %d: Label(%d) = %d, %t; want %d, %t", way.base, way.kind, way.at, label, inserted, way.label, way.inserted)
		}
	}
}

// P16.2: by hand, of more than one leap, as near as may be; of the first instant and the last one that may be a leap's.
func TestLabelOfMore(t *testing.T) {
	checkLabels(t, 5, []api.Leap{{At: day, Kind: -1}, {At: 3 * day, Kind: 1}, {At: 5 * day, Kind: 1}, {At: most, Kind: 1}}, []labelling{
		{0, 5, false}, {day - 1, 5, false}, {day, 4, false}, {day + second - 1, 4, false}, {3*day - 1, 4, false}, {3 * day, 5, true}, {3*day + second - 1, 5, true},
		{3*day + second, 5, false}, {5*day - 1, 5, false}, {5 * day, 6, true}, {5*day + second - 1, 6, true}, {5*day + second, 6, false},
		{most - 1, 6, false}, {most, 7, true}, {most + 1, 7, true}, {most + second - 1, 7, true}, {most + second, 7, false},
	})
}

// P16.2: of as many leaps as may be: each counts from its At on.
func TestLabelMany(t *testing.T) {
	for _, kind := range []int{1, -1} {
		x, _ := made(t, 0, 1000*kind, row(day, 32, kind)...)
		for i := range 32 {
			at := day + 2*day*int64(i)
			checkLabel(t, x, at-1, kind*(1000+i), false)
			checkLabel(t, x, at, kind*(1001+i), kind == 1)
			checkLabel(t, x, at+second-1, kind*(1001+i), kind == 1)
			checkLabel(t, x, at+second, kind*(1001+i), false)
		}
		checkLabel(t, x, most, kind*1032, false)
	}
}

// P16.2: Offset and Next at the ends of what an int64 holds.
func TestOffsetEnds(t *testing.T) {
	x, _ := made(t, 0, 7, row(day, 3, 1)...)
	for _, way := range []struct {
		at     int64
		offset int
	}{{math.MinInt64, 7}, {math.MinInt64 + 1, 7}, {math.MaxInt64 - 1, 10}, {math.MaxInt64, 10}} {
		if got := x.Offset(way.at); got != way.offset {
			t.Errorf("Offset(%d) = %d", way.at, got)
		}
		if _, inserted := x.Label(way.at); inserted {
			t.Errorf("Label(%d) is inserted", way.at)
		}
	}
	checkNext(t, x, math.MinInt64, api.Leap{At: day, Kind: 1}, true)
	checkNext(t, x, math.MaxInt64, api.Leap{}, false)
}

// P16.2: by hand: the next leap below 0, at 0, at each At, one ahead and one behind, at and behind the last one.
func TestNext(t *testing.T) {
	first, middle, last := api.Leap{At: 10 * day, Kind: 1}, api.Leap{At: 12 * day, Kind: -1}, api.Leap{At: most, Kind: 1}
	for _, expires := range []int64{0, 11 * day, most} { // what is next does not hang on it
		x, _ := made(t, expires, -3, first, middle, last)
		for _, way := range []struct {
			at   int64
			want api.Leap
			ok   bool
		}{
			{math.MinInt64, first, true}, {-most, first, true}, {-1, first, true}, {0, first, true}, {1, first, true}, {9*day - 1, first, true}, {10*day - 1, first, true},
			{10 * day, middle, true}, {10*day + 1, middle, true}, {10*day + second, middle, true}, {11 * day, middle, true}, {12*day - 1, middle, true},
			{12 * day, last, true}, {12*day + 1, last, true}, {20 * day, last, true}, {most - 1, last, true},
			{most, api.Leap{}, false}, {most + 1, api.Leap{}, false}, {math.MaxInt64, api.Leap{}, false},
		} {
			checkNext(t, x, way.at, way.want, way.ok)
		}
	}
	x, _ := made(t, most, 0)
	for _, at := range []int64{math.MinInt64, -1, 0, 1, day, most, math.MaxInt64} {
		checkNext(t, x, at, api.Leap{}, false)
	}
	x, _ = made(t, most, 0, first)
	checkNext(t, x, 10*day-1, first, true)
	checkNext(t, x, 10*day, api.Leap{}, false)
	checkNext(t, x, 10*day+1, api.Leap{}, false)
}

// P16.2: instants of chance, against what the words say.
func TestLabels(t *testing.T) {
	chance := rand.New(rand.NewPCG(162, 1))
	inserted, not := 0, 0
	for n := range 500 {
		x, m := someTable(t, chance, n%33)
		for _, at := range nearInstants(chance, m) {
			in := m.stands(at)
			checkLabel(t, x, at, in.offset, in.inserted)
			y, ok := m.next(at)
			checkNext(t, x, at, y, ok)
			if in.inserted {
				inserted++
			} else {
				not++
			}
		}
	}
	if inserted < 10_000 || not < 100_000 {
		t.Errorf("%d inserted, %d not", inserted, not)
	}
}
