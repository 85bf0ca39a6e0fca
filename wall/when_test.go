package wall_test

import (
	"math"
	"math/rand/v2"
	"testing"
)

// looking is a time that is looked for, and what When has to answer.
type looking struct {
	time, mono int64
	ok         bool
}

// P12.2: by hand, of bases of every kind: what is told at 0, one ahead and one behind; 0 and below; MaxTime and above; what is told at mono MaxTime first, and never.
func TestWhenByHand(t *testing.T) {
	for _, way := range []struct {
		base int64
		list []looking
	}{
		{0, []looking{
			{math.MinInt64, 0, true}, {-most, 0, true}, {-1, 0, true}, {0, 0, true}, {1, 1, true}, {2, 2, true}, {most - 1, most - 1, true},
			{most, most, true}, {most + 1, 0, false}, {math.MaxInt64, 0, false},
		}},
		{100, []looking{
			{math.MinInt64, 0, true}, {-1, 0, true}, {0, 0, true}, {1, 0, true}, {98, 0, true}, {99, 0, true}, {100, 0, true}, {101, 1, true}, {102, 2, true},
			{most - 1, most - 101, true}, {most, most - 100, true}, {most + 1, 0, false}, {most + 99, 0, false}, {most + 100, 0, false}, {math.MaxInt64, 0, false},
		}},
		{-100, []looking{
			{math.MinInt64, 0, true}, {-101, 0, true}, {-100, 0, true}, {-99, 0, true}, {-1, 0, true}, {0, 0, true}, {1, 101, true}, {2, 102, true},
			{most - 101, most - 1, true}, {most - 100, most, true}, {most - 99, 0, false}, {most - 1, 0, false}, {most, 0, false}, {most + 1, 0, false}, {math.MaxInt64, 0, false},
		}},
		{1, []looking{{-1, 0, true}, {0, 0, true}, {1, 0, true}, {2, 1, true}, {most, most - 1, true}, {most + 1, 0, false}}},
		{-1, []looking{{-1, 0, true}, {0, 0, true}, {1, 2, true}, {2, 3, true}, {most - 1, most, true}, {most, 0, false}, {most + 1, 0, false}}},
		{most, []looking{
			{math.MinInt64, 0, true}, {-1, 0, true}, {0, 0, true}, {1, 0, true}, {most - 1, 0, true}, {most, 0, true}, {most + 1, 0, false}, {math.MaxInt64, 0, false},
		}},
		{most - 1, []looking{{0, 0, true}, {most - 2, 0, true}, {most - 1, 0, true}, {most, 1, true}, {most + 1, 0, false}, {math.MaxInt64, 0, false}}},
		{-most, []looking{
			{math.MinInt64, 0, true}, {-most, 0, true}, {-1, 0, true}, {0, 0, true}, {1, 0, false}, {2, 0, false},
			{most - 1, 0, false}, {most, 0, false}, {most + 1, 0, false}, {math.MaxInt64, 0, false},
		}},
		{-most + 1, []looking{{math.MinInt64, 0, true}, {0, 0, true}, {1, most, true}, {2, 0, false}, {most, 0, false}, {most + 1, 0, false}}},
	} {
		w, _ := wallOf(t, way.base)
		for _, look := range way.list {
			checkWhen(t, w, look.time, look.mono, look.ok)
		}
	}
}

// P12.2: of all bases, times of every kind, and those near to what is told at mono 0 and at mono MaxTime.
func TestWhen(t *testing.T) {
	chance := rand.New(rand.NewPCG(122, 1))
	some := someNumbers(chance)
	told, none := 0, 0
	for _, base := range someBases(chance) {
		w, m := wallOf(t, base)
		list := []int64{some[chance.IntN(len(some))], some[chance.IntN(len(some))], chance.Int64(), -chance.Int64()}
		for near := int64(-3); near <= 3; near++ {
			list = append(list, near, base+near, most+near, m.at(0)+near, m.at(most)+near)
		}
		for _, time := range list {
			mono, ok := m.when(time)
			checkWhen(t, w, time, mono, ok)
			if ok {
				told++
			} else {
				none++
			}
		}
	}
	if told < 1000 || none < 1000 {
		t.Errorf("told %d times, none %d times", told, none)
	}
}

// P12.2: behind steps it is the base as it is that counts.
func TestWhenStepped(t *testing.T) {
	w, m := made(t, 1000)
	for n := range int64(200) {
		move(t, w, m, n*37-3000)
		for _, time := range []int64{-1, 0, 1, 500, 1000, most - 700, most} {
			mono, ok := m.when(time)
			checkWhen(t, w, time, mono, ok)
		}
	}
}
