package leap_test

import (
	"math"
	"math/rand/v2"
	"testing"

	"ephemeris/api"
)

// saying is an instant, and what has to be said at it.
type saying struct {
	at   int64
	bits byte
}

// checkSayings holds all Bits of a list; the base does not matter.
func checkSayings(t *testing.T, expires int64, l []api.Leap, list []saying) {
	t.Helper()
	for _, base := range []int{-1000, 0, 1000} {
		x, _ := made(t, expires, base, l...)
		for _, way := range list {
			checkBits(t, x, way.at, way.bits)
		}
	}
}

// P16.2: by hand, of a leap of each Kind: at its At, at the At less a Day, one ahead and one behind each.
func TestBitsOfOne(t *testing.T) {
	for _, way := range []struct {
		kind int
		said byte
	}{{1, 1}, {-1, 2}} {
		checkSayings(t, most, []api.Leap{{At: 864_000_000_000_000, Kind: way.kind}}, []saying{
			{math.MinInt64, 0}, {-most, 0}, {-day, 0}, {-1, 0}, {0, 0}, {1, 0}, {8 * day, 0}, {777_599_999_999_999, 0}, {777_600_000_000_000, way.said}, {777_600_000_000_001, way.said},
			{10*day - second, way.said}, {863_999_999_999_999, way.said}, {864_000_000_000_000, 0}, {864_000_000_000_001, 0}, {864_000_999_999_999, 0}, {864_001_000_000_000, 0},
			{11 * day, 0}, {most - 1, 0}, {most, 3}, {most + 1, 3}, {math.MaxInt64, 3},
		})
	}
}

// P16.2: by hand, of no leap: nothing, or that it is not to be trusted any more.
func TestBitsOfNone(t *testing.T) {
	checkSayings(t, 0, nil, []saying{{math.MinInt64, 0}, {-1, 0}, {0, 3}, {1, 3}, {most, 3}, {math.MaxInt64, 3}})
	checkSayings(t, 5, nil, []saying{{-1, 0}, {0, 0}, {4, 0}, {5, 3}, {6, 3}})
	checkSayings(t, most, nil, []saying{{math.MinInt64, 0}, {-1, 0}, {0, 0}, {most - 1, 0}, {most, 3}, {most + 1, 3}, {math.MaxInt64, 3}})
}

// P16.2: by hand, at Expires, one ahead of it and one behind it, also where a leap is at most a Day behind it: that it is not to be trusted is said first.
func TestBitsExpired(t *testing.T) {
	for _, way := range []struct {
		kind int
		said byte
	}{{1, 1}, {-1, 2}} {
		l := []api.Leap{{At: 10 * day, Kind: way.kind}}
		checkSayings(t, 0, l, []saying{{-1, 0}, {0, 3}, {9 * day, 3}, {10*day - 1, 3}, {10 * day, 3}, {most, 3}})
		checkSayings(t, 9*day-1, l, []saying{{9*day - 2, 0}, {9*day - 1, 3}, {9 * day, 3}, {10*day - 1, 3}})
		checkSayings(t, 9*day, l, []saying{{9*day - 1, 0}, {9 * day, 3}, {9*day + 1, 3}, {10*day - 1, 3}, {10 * day, 3}})
		checkSayings(t, 9*day+1, l, []saying{{9*day - 1, 0}, {9 * day, way.said}, {9*day + 1, 3}, {9*day + 2, 3}})
		checkSayings(t, 9*day+second, l, []saying{{9*day + second - 1, way.said}, {9*day + second, 3}, {9*day + second + 1, 3}})
		checkSayings(t, 10*day-1, l, []saying{{10*day - 2, way.said}, {10*day - 1, 3}, {10 * day, 3}})
		checkSayings(t, 10*day, l, []saying{{10*day - 1, way.said}, {10 * day, 3}, {10*day + 1, 3}})
		checkSayings(t, 10*day+1, l, []saying{{10*day - 1, way.said}, {10 * day, 0}, {10*day + 1, 3}, {10*day + 2, 3}})
	}
}

// P16.2: by hand, of leaps as near as may be: a Day ahead of each is told of that one alone; of the first and the last instant that may be a leap's.
func TestBitsOfMore(t *testing.T) {
	checkSayings(t, most, []api.Leap{{At: day, Kind: -1}, {At: 3 * day, Kind: 1}, {At: 5 * day, Kind: -1}, {At: most, Kind: 1}}, []saying{
		{math.MinInt64, 0}, {-day, 0}, {-1, 0}, {0, 2}, {1, 2}, {day - 1, 2}, {day, 0}, {2*day - 1, 0}, {2 * day, 1}, {3*day - 1, 1}, {3 * day, 0}, {4*day - 1, 0},
		{4 * day, 2}, {5*day - 1, 2}, {5 * day, 0}, {6 * day, 0}, {most - day - 1, 0}, {most - day, 1}, {most - 1, 1}, {most, 3}, {most + 1, 3},
	})
}

// P16.2: of as many leaps as may be, of both kinds by turns.
func TestBitsMany(t *testing.T) {
	l := row(day, 32, 1)
	for i := range l {
		l[i].Kind = 1 - i%2*2
	}
	x, _ := made(t, most, 0, l...)
	for i, y := range l {
		checkBits(t, x, y.At-day-1, 0)
		checkBits(t, x, y.At-day, byte(1+i%2))
		checkBits(t, x, y.At-1, byte(1+i%2))
		checkBits(t, x, y.At, 0)
	}
}

// P16.2: instants of chance, against what the words say.
func TestBits(t *testing.T) {
	chance := rand.New(rand.NewPCG(162, 4))
	said := [4]int{}
	for n := range 800 {
		x, m := someTable(t, chance, n%33)
		for _, at := range nearInstants(chance, m) {
			bits := m.bits(at)
			checkBits(t, x, at, bits)
			said[bits]++
		}
	}
	for bits, many := range said {
		if many < 10_000 {
			t.Errorf("%d was said %d times", bits, many)
		}
	}
}
