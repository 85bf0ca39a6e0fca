package smear_test

import (
	"math"
	"math/rand/v2"
	"testing"

	"ephemeris/api"
	"ephemeris/smear"
)

// looking is a smeared time that is looked for, and what Back has to answer.
type looking struct {
	s, at int64
	ok    bool
}

// checkLooking holds all Backs of a list.
func checkLooking(t *testing.T, x *smear.Table, list []looking) {
	t.Helper()
	for _, way := range list {
		checkBack(t, x, way.s, way.at, way.ok)
	}
}

// P15.3: by hand, of no leap: below 0, 0, MaxTime, above it.
func TestBackOfNone(t *testing.T) {
	x, _ := made(t)
	checkLooking(t, x, []looking{
		{math.MinInt64, 0, true}, {-most, 0, true}, {-1, 0, true}, {0, 0, true}, {1, 1, true}, {day, day, true},
		{most - 1, most - 1, true}, {most, most, true}, {most + 1, 0, false}, {math.MaxInt64, 0, false},
	})
}

// P15.3: by hand, of one that is inserted: two instants have one smeared time, of which the first is told; what is never reached.
func TestBackOfInserted(t *testing.T) {
	const begin, end = 820_800_000_000_000, 907_200_000_000_000
	x, _ := made(t, api.Leap{At: 864_000_000_000_000, Kind: 1})
	checkLooking(t, x, []looking{
		{math.MinInt64, 0, true}, {-1, 0, true}, {0, 0, true}, {1, 1, true}, {begin - 1, begin - 1, true}, {begin, begin, true}, {begin + 1, begin + 1, true},
		{begin + 86_398, begin + 86_398, true}, {begin + 86_399, begin + 86_399, true}, {begin + 86_400, begin + 86_401, true},
		{begin + 172_797, begin + 172_798, true}, {begin + 172_798, begin + 172_799, true}, {begin + 172_799, begin + 172_801, true},
		{10*day - 500_000_001, 10*day - 2, true}, {10*day - 500_000_000, 10*day - 1, true}, {10*day - 499_999_999, 10*day + 1, true},
		{end - 1_000_000_001, end - 2, true}, {end - 1_000_000_000, end - 1, true}, {end - 999_999_999, end + 1, true}, {end, end + 1_000_000_000, true},
		{20 * day, 20*day + 1_000_000_000, true},
		{most - 1_000_000_001, most - 1, true}, {most - 1_000_000_000, most, true}, {most - 999_999_999, 0, false}, {most - 1, 0, false},
		{most, 0, false}, {most + 1, 0, false}, {math.MaxInt64, 0, false},
	})
}

// P15.3: by hand, of one that is left out: smeared times that no instant has; such as are above MaxTime.
func TestBackOfLeftOut(t *testing.T) {
	const begin, end = 820_800_000_000_000, 907_200_000_000_000
	x, _ := made(t, api.Leap{At: 864_000_000_000_000, Kind: -1})
	checkLooking(t, x, []looking{
		{math.MinInt64, 0, true}, {-1, 0, true}, {0, 0, true}, {1, 1, true}, {begin, begin, true},
		{begin + 86_399, begin + 86_399, true}, {begin + 86_400, begin + 86_400, true}, {begin + 86_401, begin + 86_400, true}, {begin + 86_402, begin + 86_401, true},
		{begin + 172_800, begin + 172_799, true}, {begin + 172_801, begin + 172_800, true}, {begin + 172_802, begin + 172_800, true}, {begin + 172_803, begin + 172_801, true},
		{10*day + 499_999_998, 10*day - 1, true}, {10*day + 499_999_999, 10 * day, true}, {10*day + 500_000_000, 10 * day, true}, {10*day + 500_000_001, 10*day + 1, true},
		{end + 999_999_998, end - 1, true}, {end + 999_999_999, end, true}, {end + 1_000_000_000, end, true}, {end + 1_000_000_001, end + 1, true},
		{20 * day, 20*day - 1_000_000_000, true}, {most - 1, most - 1_000_000_001, true}, {most, most - 1_000_000_000, true}, {most + 1, most - 999_999_999, true},
		{most + 999_999_999, most - 1, true}, {most + 1_000_000_000, most, true}, {most + 1_000_000_001, 0, false}, {math.MaxInt64, 0, false},
	})
}

// P15.3: by hand, of both, whose seconds are made up for behind the later one; what is told between them.
func TestBackOfBoth(t *testing.T) {
	x, _ := made(t, api.Leap{At: 10 * day, Kind: 1}, api.Leap{At: 12 * day, Kind: -1})
	checkLooking(t, x, []looking{
		{-1, 0, true}, {0, 0, true}, {11*day - second, 11 * day, true}, {11 * day, 11*day + second, true}, {12*day - 500_000_000, 12 * day, true},
		{13 * day, 13 * day, true}, {most - 1, most - 1, true}, {most, most, true}, {most + 1, 0, false}, {math.MaxInt64, 0, false},
	})
	x, _ = made(t, api.Leap{At: 10 * day, Kind: -1}, api.Leap{At: 12 * day, Kind: 1})
	checkLooking(t, x, []looking{
		{-1, 0, true}, {0, 0, true}, {11*day + second, 11 * day, true}, {11 * day, 11*day - second, true}, {12*day + 500_000_000, 12*day - 1, true},
		{12*day + 500_000_001, 12*day + 1, true}, {13 * day, 13 * day, true}, {most - 1, most - 1, true}, {most, most, true}, {most + 1, 0, false}, {math.MaxInt64, 0, false},
	})
}

// P15.3: by hand, of leaps whose days end above MaxTime: what would be told above it is never reached.
func TestBackLast(t *testing.T) {
	x, _ := made(t, api.Leap{At: most, Kind: 1})
	checkLooking(t, x, []looking{
		{most - halfDay, most - halfDay, true}, {most - 500_000_001, most - 2, true}, {most - 500_000_000, most - 1, true},
		{most - 499_999_999, 0, false}, {most, 0, false}, {most + 1, 0, false}, {math.MaxInt64, 0, false},
	})
	x, _ = made(t, api.Leap{At: most, Kind: -1})
	checkLooking(t, x, []looking{
		{most - halfDay, most - halfDay, true}, {most + 499_999_998, most - 1, true}, {most + 499_999_999, most, true}, {most + 500_000_000, most, true},
		{most + 500_000_001, 0, false}, {math.MaxInt64, 0, false},
	})
}

// P15.3: by hand, of as many leaps as may be, all of a kind: the smeared time of MaxTime, and one above it.
func TestBackMany(t *testing.T) {
	for _, kind := range []int{1, -1} {
		l := row(day, 32)
		for i := range l {
			l[i].Kind = kind
		}
		x, _ := made(t, l...)
		last := most - int64(kind)*32_000_000_000
		checkLooking(t, x, []looking{{0, 0, true}, {last - 1, most - 1, true}, {last, most, true}, {last + 1, 0, false}, {math.MaxInt64, 0, false}})
	}
}

// ofKinds are leaps of the same instants: all inserted, all left out, or by turns.
func ofKinds(l []api.Leap, which int) []api.Leap {
	for i := range l {
		l[i].Kind = []int{1, -1, 1 - i%2*2}[which]
	}
	return l
}

// P15.3: smeared times of chance, and such as are near to those of a leap's day, against what is worked out without a search.
func TestBack(t *testing.T) {
	chance := rand.New(rand.NewPCG(153, 1))
	told, none := 0, 0
	for n := range 240 {
		l := ofKinds(someLeaps(chance, n/3%33), n%3)
		x, m := made(t, l...)
		list := []int64{chance.Int64(), -chance.Int64(), chance.Int64N(most), chance.Int64N(most) >> chance.IntN(62)}
		for near := int64(-3); near <= 3; near++ {
			list = append(list, near, most+near, m.to(most)+near)
		}
		for _, at := range nearLeaps(chance, l) {
			list = append(list, m.to(at), m.to(at)+chance.Int64N(9)-4)
		}
		for _, s := range list {
			at, ok := m.back(s)
			checkBack(t, x, s, at, ok)
			if ok {
				told++
			} else {
				none++
			}
		}
	}
	if told < 10_000 || none < 500 {
		t.Errorf("told %d times, none %d times", told, none)
	}
}

// P15.3: what is told is the least: its own smeared time is enough, that of the instant ahead of it is not; if none is told, not even that of MaxTime is.
func TestBackLeast(t *testing.T) {
	chance := rand.New(rand.NewPCG(153, 2))
	for n := range 200 {
		l := someLeaps(chance, n%33)
		x, _ := made(t, l...)
		for _, near := range append(nearLeaps(chance, l), ends()...) {
			s := x.To(near) + chance.Int64N(7) - 3
			at, ok := x.Back(s)
			switch {
			case !ok && (at != 0 || x.To(most) >= s):
				t.Fatalf("of %v: Back(%d) = %d, %t, but To(MaxTime) = %d", l, s, at, ok, x.To(most))
			case ok && (at < 0 || at > most || x.To(at) < s || at > 0 && x.To(at-1) >= s):
				t.Fatalf("of %v: Back(%d) = %d, but To of it is %d, To of the one ahead %d", l, s, at, x.To(at), x.To(at-1))
			}
		}
	}
}
