package smear_test

import (
	"math"
	"math/rand/v2"
	"testing"

	"ephemeris/api"
	"ephemeris/smear"
)

// taking is an instant, and what has to be taken at it.
type taking struct{ at, taken int64 }

// checkAll holds what has to be taken at all instants of a list.
func checkAll(t *testing.T, x *smear.Table, list []taking) {
	t.Helper()
	for _, way := range list {
		checkTaken(t, x, way.at, way.taken)
	}
}

// P15.2: by hand, of one leap at 10 Days: at the ends of its day, at the At, each one ahead and one behind; at instants at which one more is taken, and one ahead of them.
func TestTakenByHand(t *testing.T) {
	const begin, end = 820_800_000_000_000, 907_200_000_000_000
	for _, kind := range []int{1, -1} {
		x, _ := made(t, api.Leap{At: 864_000_000_000_000, Kind: kind})
		sign := int64(kind)
		checkAll(t, x, []taking{
			{math.MinInt64, 0}, {-1, 0}, {0, 0}, {1, 0}, {9 * day, 0}, {begin - 1, 0}, {begin, 0}, {begin + 1, 0},
			{begin + 86_399, 0}, {begin + 86_400, sign}, {begin + 86_401, sign}, {begin + 172_799, sign}, {begin + 172_800, sign * 2},
			{begin + 8_640_000_000 - 1, sign * 99_999}, {begin + 8_640_000_000, sign * 100_000},
			{864_000_000_000_000 - 86_401, sign * 499_999_998}, {864_000_000_000_000 - 86_400, sign * 499_999_999}, {864_000_000_000_000 - 1, sign * 499_999_999},
			{864_000_000_000_000, sign * 500_000_000}, {864_000_000_000_001, sign * 500_000_000},
			{864_000_000_000_000 + 86_399, sign * 500_000_000}, {864_000_000_000_000 + 86_400, sign * 500_000_001},
			{end - 86_401, sign * 999_999_998}, {end - 86_400, sign * 999_999_999}, {end - 1, sign * 999_999_999},
			{end, sign * 1_000_000_000}, {end + 1, sign * 1_000_000_000}, {end + 86_400, sign * 1_000_000_000}, {11 * day, sign * 1_000_000_000},
			{most - 1, sign * 1_000_000_000}, {most, sign * 1_000_000_000}, {most + 1, sign * 1_000_000_000}, {math.MaxInt64, sign * 1_000_000_000},
		})
	}
}

// P15.2: of no leap nothing is taken; an instant below 0 counts as 0, one above MaxTime as MaxTime.
func TestTakenOfNone(t *testing.T) {
	x, _ := made(t)
	for _, at := range ends() {
		checkTaken(t, x, at, 0)
	}
	for _, way := range []struct{ at, to int64 }{
		{math.MinInt64, 0}, {-most, 0}, {-1, 0}, {0, 0}, {1, 1}, {day, day}, {most - 1, most - 1}, {most, most}, {most + 1, most}, {math.MaxInt64, most},
	} {
		if got := x.To(way.at); got != way.to {
			t.Errorf("To(%d) = %d; want %d", way.at, got, way.to)
		}
	}
}

// P15.2: the first day that may be, from half a Day on: at 0 and below nothing is taken.
func TestTakenFirst(t *testing.T) {
	for _, kind := range []int{1, -1} {
		x, _ := made(t, api.Leap{At: day, Kind: kind})
		sign := int64(kind)
		checkAll(t, x, []taking{
			{math.MinInt64, 0}, {-halfDay, 0}, {-1, 0}, {0, 0}, {halfDay, 0}, {halfDay + 86_399, 0}, {halfDay + 86_400, sign},
			{day, sign * 500_000_000}, {day + halfDay - 1, sign * 999_999_999}, {day + halfDay, sign * second},
		})
	}
}

// P15.2: leaps whose days end above MaxTime, at it, and one below: above MaxTime no more is taken than at it.
func TestTakenLast(t *testing.T) {
	for _, kind := range []int{1, -1} {
		sign := int64(kind)
		for _, way := range []struct {
			at   int64
			list []taking
		}{
			{most, []taking{
				{most - halfDay, 0}, {most - halfDay + 86_400, sign}, {most - 1, sign * 499_999_999}, {most, sign * 500_000_000}, {most + 1, sign * 500_000_000},
				{most + 86_400, sign * 500_000_000}, {most + halfDay - 1, sign * 500_000_000}, {most + halfDay, sign * 500_000_000}, {math.MaxInt64, sign * 500_000_000},
			}},
			{most - 1, []taking{
				{most - 2, sign * 499_999_999}, {most - 1, sign * 500_000_000}, {most, sign * 500_000_000}, {most + 86_399, sign * 500_000_000}, {math.MaxInt64, sign * 500_000_000},
			}},
			{most - halfDay + 1, []taking{
				{most - 1, sign * 999_999_999}, {most, sign * 999_999_999}, {most + 1, sign * 999_999_999}, {math.MaxInt64, sign * 999_999_999},
			}},
			{most - halfDay, []taking{
				{most - 1, sign * 999_999_999}, {most, sign * second}, {most + 1, sign * second}, {math.MaxInt64, sign * second},
			}},
			{most - halfDay - 1, []taking{
				{most - 2, sign * 999_999_999}, {most - 1, sign * second}, {most, sign * second}, {math.MaxInt64, sign * second},
			}},
		} {
			x, _ := made(t, api.Leap{At: way.at, Kind: kind})
			checkAll(t, x, way.list)
		}
	}
}

// P15.2: two leaps as near as may be, so that a Day lies between their days: at both ends of it, and in it.
func TestTakenTwo(t *testing.T) {
	for _, way := range []struct{ first, next int64 }{{1, 1}, {1, -1}, {-1, 1}, {-1, -1}} {
		x, _ := made(t, api.Leap{At: 10 * day, Kind: int(way.first)}, api.Leap{At: 12 * day, Kind: int(way.next)})
		first, both := way.first*second, (way.first+way.next)*second
		checkAll(t, x, []taking{
			{10 * day, way.first * 500_000_000}, {10*day + halfDay - 1, way.first * 999_999_999}, {10*day + halfDay, first}, {10*day + halfDay + 1, first},
			{11 * day, first}, {12*day - halfDay - 1, first}, {12*day - halfDay, first}, {12*day - halfDay + 86_399, first},
			{12*day - halfDay + 86_400, first + way.next}, {12 * day, first + way.next*500_000_000}, {12*day + halfDay - 1, first + way.next*999_999_999},
			{12*day + halfDay, both}, {13 * day, both}, {most, both}, {math.MaxInt64, both},
		})
	}
}

// P15.2: as many leaps as may be: all of a kind, and by turns.
func TestTakenMany(t *testing.T) {
	for _, kind := range []int{1, -1} {
		l := row(day, 32)
		turns := row(day, 32)
		for i := range l {
			l[i].Kind = kind
			turns[i].Kind = kind * (1 - i%2*2)
		}
		x, _ := made(t, l...)
		other, _ := made(t, turns...)
		sign := int64(kind)
		checkTaken(t, x, most, sign*32_000_000_000)
		checkTaken(t, other, most, 0)
		for i := range int64(32) {
			checkTaken(t, x, 2*day*i, sign*i*second)
			checkTaken(t, x, 2*day*i+day, sign*(i*second+second/2))
			checkTaken(t, other, 2*day*i, sign*(i%2)*second)
			checkTaken(t, other, 2*day*i+day, sign*second/2)
		}
	}
}

// P15.2: instants of chance, in a leap's day and out of it, against what the words say.
func TestTaken(t *testing.T) {
	chance := rand.New(rand.NewPCG(152, 1))
	inside, outside := 0, 0
	for n := range 500 {
		l := someLeaps(chance, n%33)
		x, m := made(t, l...)
		list := []int64{chance.Int64(), -chance.Int64(), chance.Int64N(most), chance.Int64N(most) >> chance.IntN(62)}
		for _, y := range l {
			list = append(list, y.At-day+chance.Int64N(2*day), y.At-halfDay+pace*chance.Int64N(second)-chance.Int64N(2))
		}
		for _, at := range list {
			checkTaken(t, x, at, m.taken(at))
			if _, in := m.within(at); in {
				inside++
			} else {
				outside++
			}
		}
	}
	if inside < 5000 || outside < 3000 {
		t.Errorf("%d in a leap's day, %d not", inside, outside)
	}
}
