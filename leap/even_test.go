package leap_test

import (
	"math"
	"math/rand/v2"
	"testing"

	"ephemeris/api"
)

// looking is a label that is looked for, inserted or not, and what Even has to answer.
type looking struct {
	label    int64
	inserted bool
	at       int64
	ok       bool
}

// checkLooking holds all Evens of a list.
func checkLooking(t *testing.T, base int, l []api.Leap, list []looking) {
	t.Helper()
	for _, expires := range []int64{0, 10 * day, most} { // what has a label does not hang on it
		x, _ := made(t, expires, base, l...)
		for _, way := range list {
			checkEven(t, x, way.label, way.inserted, way.at, way.ok)
		}
	}
}

// noLabels are the ends of what an int64 holds, and others that no instant has, whatever the table.
func noLabels() []int64 {
	return []int64{
		math.MinInt64, math.MinInt64 + 1, math.MinInt64 + 1000*second, math.MinInt64 + 2000*second, -most, -2000 * second,
		most + 2000*second, math.MaxInt64 - 2000*second, math.MaxInt64 - 1000*second, math.MaxInt64 - 1, math.MaxInt64,
	}
}

// P16.2: by hand, of no leap: each instant has one label, from below 0 on, and none is inserted.
func TestEvenOfNone(t *testing.T) {
	for _, base := range []int{-1000, -1, 0, 1, 1000} {
		by := int64(base) * second
		checkLooking(t, base, nil, []looking{
			{-by - 1, false, 0, false}, {-by, false, 0, true}, {-by + 1, false, 1, true}, {day - by, false, day, true},
			{most - by - 1, false, most - 1, true}, {most - by, false, most, true}, {most - by + 1, false, 0, false},
			{-by, true, 0, false}, {day - by, true, 0, false}, {most - by, true, 0, false},
		})
	}
}

// P16.2: by hand, of labels below 0: an instant has them, if the base is above 0; else only one below 0 would.
func TestEvenBelow(t *testing.T) {
	checkLooking(t, 1000, row(day, 2, 1), []looking{
		{-1000*second - 1, false, 0, false}, {-1000 * second, false, 0, true}, {-1000*second + 1, false, 1, true}, {-1, false, 1000*second - 1, true}, {0, false, 1000 * second, true},
		{-1000 * second, true, 0, false}, {-1, true, 0, false}, {0, true, 0, false},
	})
	checkLooking(t, 0, row(day, 2, 1), []looking{{-1, false, 0, false}, {-1, true, 0, false}, {0, false, 0, true}, {1, false, 1, true}})
	checkLooking(t, -1000, row(day, 2, 1), []looking{{-1, false, 0, false}, {0, false, 0, false}, {1000*second - 1, false, 0, false}, {1000 * second, false, 0, true}, {1000*second - 1, true, 0, false}})
}

// P16.2: by hand, of a leap of Kind 1: the second that is told twice, once inserted; the ends of it.
func TestEvenOfInserted(t *testing.T) {
	checkLooking(t, 10, []api.Leap{{At: 2 * day, Kind: 1}}, []looking{
		{172_788_999_999_999, false, 172_798_999_999_999, true}, {172_788_999_999_999, true, 0, false},
		{172_789_000_000_000, false, 172_799_000_000_000, true}, {172_789_000_000_000, true, 172_800_000_000_000, true},
		{172_789_000_000_001, false, 172_799_000_000_001, true}, {172_789_000_000_001, true, 172_800_000_000_001, true},
		{172_789_999_999_999, false, 172_799_999_999_999, true}, {172_789_999_999_999, true, 172_800_999_999_999, true},
		{172_790_000_000_000, false, 172_801_000_000_000, true}, {172_790_000_000_000, true, 0, false},
		{172_790_000_000_001, false, 172_801_000_000_001, true}, {3 * day, false, 3*day + 11*second, true}, {3 * day, true, 0, false}, {0, true, 0, false},
		{most - 11*second, false, most, true}, {most - 11*second + 1, false, 0, false}, {most - 10*second, false, 0, false}, {most - 11*second, true, 0, false},
	})
}

// P16.2: by hand, of a leap of Kind -1: the second that is left out no instant has.
func TestEvenOfLeftOut(t *testing.T) {
	checkLooking(t, 10, []api.Leap{{At: 2 * day, Kind: -1}}, []looking{
		{172_789_999_999_998, false, 172_799_999_999_998, true}, {172_789_999_999_999, false, 172_799_999_999_999, true},
		{172_790_000_000_000, false, 0, false}, {172_790_000_000_001, false, 0, false}, {172_790_500_000_000, false, 0, false}, {172_790_999_999_999, false, 0, false},
		{172_791_000_000_000, false, 172_800_000_000_000, true}, {172_791_000_000_001, false, 172_800_000_000_001, true},
		{172_789_999_999_999, true, 0, false}, {172_790_000_000_000, true, 0, false}, {172_790_999_999_999, true, 0, false}, {172_791_000_000_000, true, 0, false},
		{most - 9*second, false, most, true}, {most - 9*second + 1, false, 0, false},
	})
}

// P16.2: by hand, of both kinds, so that offsets come again.
func TestEvenOfBoth(t *testing.T) {
	checkLooking(t, 0, []api.Leap{{At: 10 * day, Kind: 1}, {At: 12 * day, Kind: -1}, {At: 14 * day, Kind: 1}}, []looking{
		{10*day - second, false, 10*day - second, true}, {10*day - second, true, 10 * day, true}, {10*day - 1, true, 10*day + second - 1, true},
		{10 * day, false, 10*day + second, true}, {10 * day, true, 0, false}, {12*day - second - 1, false, 12*day - 1, true},
		{12*day - second, false, 0, false}, {12*day - 1, false, 0, false}, {12*day - 1, true, 0, false}, {12 * day, false, 12 * day, true},
		{14*day - second, false, 14*day - second, true}, {14*day - second, true, 14 * day, true}, {14*day - 1, false, 14*day - 1, true},
		{14*day - 1, true, 14*day + second - 1, true}, {14 * day, false, 14*day + second, true}, {14 * day, true, 0, false},
	})
}

// P16.2: by hand, of a leap near MaxTime: of an inserted second only so much is told as is up to MaxTime.
func TestEvenLast(t *testing.T) {
	checkLooking(t, 0, []api.Leap{{At: most, Kind: 1}}, []looking{
		{most - second - 1, false, most - second - 1, true}, {most - second, false, most - second, true}, {most - second, true, most, true}, {most - second + 1, true, 0, false},
		{most - 1, false, most - 1, true}, {most - 1, true, 0, false}, {most, false, 0, false}, {most, true, 0, false}, {most + 1, false, 0, false},
	})
	checkLooking(t, -5, []api.Leap{{At: most - second, Kind: 1}}, []looking{
		{most + 3*second, true, most - second, true}, {most + 4*second - 1, true, most - 1, true}, {most + 4*second, true, 0, false},
		{most + 4*second - 1, false, most - second - 1, true}, {most + 4*second, false, most, true}, {most + 4*second + 1, false, 0, false}, {most + 5*second, false, 0, false},
	})
	checkLooking(t, 0, []api.Leap{{At: most, Kind: -1}}, []looking{
		{most - 1, false, most - 1, true}, {most, false, 0, false}, {most + second - 1, false, 0, false}, {most + second, false, most, true}, {most + second, true, 0, false},
		{most + second + 1, false, 0, false},
	})
}

// P16.2: labels that no instant from 0 to MaxTime has, up to the ends of what an int64 holds, inserted and not.
func TestEvenNever(t *testing.T) {
	chance := rand.New(rand.NewPCG(162, 2))
	for n := range 99 {
		for _, base := range []int{-1000, 0, 1000} {
			x, _ := made(t, most, base, someLeaps(chance, n%33)...)
			for _, label := range noLabels() {
				checkEven(t, x, label, false, 0, false)
				checkEven(t, x, label, true, 0, false)
			}
		}
	}
}

// P16.2: of as many leaps as may be, by hand: of each the second that is told twice, or left out.
func TestEvenMany(t *testing.T) {
	up, _ := made(t, 0, 1000, row(day, 32, 1)...)
	down, _ := made(t, 0, -1000, row(day, 32, -1)...)
	for i := range int64(32) {
		at := day + 2*day*i
		twice := at - (1001+i)*second
		checkEven(t, up, twice-1, true, 0, false)
		checkEven(t, up, twice, true, at, true)
		checkEven(t, up, twice, false, at-second, true)
		checkEven(t, up, twice+second-1, true, at+second-1, true)
		checkEven(t, up, twice+second-1, false, at-1, true)
		checkEven(t, up, twice+second, true, 0, false)
		checkEven(t, up, twice+second, false, at+second, true)
		never := at + (1000+i)*second
		checkEven(t, down, never-1, false, at-1, true)
		checkEven(t, down, never, false, 0, false)
		checkEven(t, down, never+second-1, false, 0, false)
		checkEven(t, down, never+second, false, at, true)
		checkEven(t, down, never, true, 0, false)
		checkEven(t, down, never+second, true, 0, false)
	}
	checkEven(t, up, most-1032*second, false, most, true)
	checkEven(t, up, most-1032*second+1, false, 0, false)
	checkEven(t, down, most+1032*second, false, most, true)
	checkEven(t, down, most+1032*second+1, false, 0, false)
}

// P16.2: labels of chance, against what the words say.
func TestEven(t *testing.T) {
	chance := rand.New(rand.NewPCG(162, 3))
	told, none, inserted := 0, 0, 0
	for n := range 132 {
		x, m := someTable(t, chance, n%33)
		for _, at := range nearInstants(chance, m) {
			label, _ := m.label(at)
			for _, label := range []int64{at, label, label + chance.Int64N(5*second) - 2*second, chance.Int64(), -chance.Int64()} {
				for _, is := range []bool{false, true} {
					even, ok := m.even(label, is)
					checkEven(t, x, label, is, even, ok)
					switch {
					case !ok:
						none++
					case is:
						inserted++
					default:
						told++
					}
				}
			}
		}
	}
	if told < 50_000 || none < 50_000 || inserted < 2000 {
		t.Errorf("told %d times, %d times inserted, none %d times", told, inserted, none)
	}
}
