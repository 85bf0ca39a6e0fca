package smear_test

import (
	"math"
	"math/rand/v2"
	"testing"

	"ephemeris/api"
)

// standing is an instant, and in which leap's day it has to stand.
type standing struct {
	at    int64
	place int
	ok    bool
}

// P15.4: by hand, at each end of a leap's day, one ahead and one behind; between two days as near as may be; below 0 and above MaxTime.
func TestWithinByHand(t *testing.T) {
	for _, way := range []struct {
		ats  []int64
		list []standing
	}{
		{nil, []standing{{math.MinInt64, 0, false}, {-1, 0, false}, {0, 0, false}, {day, 0, false}, {most, 0, false}, {math.MaxInt64, 0, false}}},
		{[]int64{10 * day}, []standing{
			{math.MinInt64, 0, false}, {-1, 0, false}, {0, 0, false}, {9 * day, 0, false}, {820_799_999_999_999, 0, false}, {820_800_000_000_000, 0, true},
			{820_800_000_000_001, 0, true}, {10*day - 1, 0, true}, {10 * day, 0, true}, {10*day + 1, 0, true}, {907_199_999_999_999, 0, true},
			{907_200_000_000_000, 0, false}, {907_200_000_000_001, 0, false}, {11 * day, 0, false}, {most, 0, false}, {math.MaxInt64, 0, false},
		}},
		{[]int64{day}, []standing{
			{math.MinInt64, 0, false}, {-halfDay, 0, false}, {-1, 0, false}, {0, 0, false}, {1, 0, false}, {halfDay - 1, 0, false}, {halfDay, 0, true},
			{day, 0, true}, {day + halfDay - 1, 0, true}, {day + halfDay, 0, false},
		}},
		{[]int64{10 * day, 12 * day, 20 * day}, []standing{
			{10*day - halfDay - 1, 0, false}, {10*day - halfDay, 0, true}, {10*day + halfDay - 1, 0, true}, {10*day + halfDay, 0, false}, {11 * day, 0, false},
			{12*day - halfDay - 1, 0, false}, {12*day - halfDay, 1, true}, {12 * day, 1, true}, {12*day + halfDay - 1, 1, true}, {12*day + halfDay, 0, false},
			{16 * day, 0, false}, {20*day - halfDay - 1, 0, false}, {20*day - halfDay, 2, true}, {20*day + halfDay - 1, 2, true}, {20*day + halfDay, 0, false},
			{most, 0, false}, {most + 1, 0, false}, {math.MaxInt64, 0, false},
		}},
		// Above MaxTime is as at MaxTime, in the day that stands in it.
		{[]int64{most - 2*day, most}, []standing{
			{most - 2*day, 0, true}, {most - day, 0, false}, {most - halfDay - 1, 0, false}, {most - halfDay, 1, true}, {most - 1, 1, true}, {most, 1, true},
			{most + 1, 1, true}, {most + halfDay - 1, 1, true}, {most + halfDay, 1, true}, {math.MaxInt64, 1, true}, {math.MinInt64, 0, false},
		}},
		{[]int64{most - halfDay + 1}, []standing{{most - 1, 0, true}, {most, 0, true}, {most + 1, 0, true}, {math.MaxInt64, 0, true}}},
		{[]int64{most - halfDay}, []standing{{most - 1, 0, true}, {most, 0, false}, {most + 1, 0, false}, {math.MaxInt64, 0, false}}},
		{[]int64{most - halfDay - 1}, []standing{{most - 2, 0, true}, {most - 1, 0, false}, {most, 0, false}, {math.MaxInt64, 0, false}}},
	} {
		for _, kind := range []int{1, -1} {
			l := make([]api.Leap, len(way.ats))
			for i, at := range way.ats {
				l[i] = api.Leap{At: at, Kind: kind}
			}
			x, _ := made(t, l...)
			for _, in := range way.list {
				checkWithin(t, x, in.at, in.place, in.ok)
			}
		}
	}
}

// P15.4: the place of each of 32 leaps.
func TestWithinMany(t *testing.T) {
	x, _ := made(t, row(day, 32)...)
	for place := range 32 {
		at := day + 2*day*int64(place)
		checkWithin(t, x, at-halfDay-1, 0, false)
		checkWithin(t, x, at-halfDay, place, true)
		checkWithin(t, x, at, place, true)
		checkWithin(t, x, at+halfDay-1, place, true)
		checkWithin(t, x, at+halfDay, 0, false)
	}
}

// P15.4: instants of chance, against what the words say.
func TestWithin(t *testing.T) {
	chance := rand.New(rand.NewPCG(154, 1))
	inside, outside := 0, 0
	for n := range 500 {
		l := someLeaps(chance, n%33)
		x, m := made(t, l...)
		list := []int64{chance.Int64(), -chance.Int64(), chance.Int64N(most), chance.Int64N(most) >> chance.IntN(62)}
		for _, y := range l {
			list = append(list, y.At-day+chance.Int64N(2*day))
		}
		for _, at := range list {
			place, ok := m.within(at)
			checkWithin(t, x, at, place, ok)
			if ok {
				inside++
			} else {
				outside++
			}
		}
	}
	if inside < 3000 || outside < 3000 {
		t.Errorf("%d in a leap's day, %d not", inside, outside)
	}
}
