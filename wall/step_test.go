package wall_test

import (
	"math"
	"math/rand/v2"
	"testing"

	"ephemeris/api"
)

// stepping is a step, and what it has to make of a wall.
type stepping struct {
	by    int64
	e     api.Errno
	base  int64
	steps int
}

// P12.1, P12.3: by hand: to just MaxTime, to just -MaxTime, one beyond each, and by the ends; only what told OK counts, and a step by 0 does.
func TestStepByHand(t *testing.T) {
	for _, way := range []struct {
		start int64
		list  []stepping
	}{
		{0, []stepping{
			{0, api.OK, 0, 1}, {1, api.OK, 1, 2}, {-1, api.OK, 0, 3}, {-1, api.OK, -1, 4}, {0, api.OK, -1, 5}, {1, api.OK, 0, 6},
			{most, api.OK, most, 7}, {1, api.ErrRange, most, 7}, {most, api.ErrRange, most, 7}, {math.MaxInt64, api.ErrRange, most, 7}, {0, api.OK, most, 8},
			{math.MinInt64, api.OK, -most, 9}, {-1, api.ErrRange, -most, 9}, {-most, api.ErrRange, -most, 9}, {math.MinInt64, api.ErrRange, -most, 9},
			{math.MaxInt64, api.OK, most - 1, 10}, {2, api.ErrRange, most - 1, 10}, {1, api.OK, most, 11},
		}},
		{0, []stepping{{most + 1, api.ErrRange, 0, 0}, {-most - 1, api.ErrRange, 0, 0}, {-most, api.OK, -most, 1}, {most, api.OK, 0, 2}, {-5, api.OK, -5, 3}}},
		{0, []stepping{{math.MaxInt64, api.ErrRange, 0, 0}, {math.MinInt64, api.ErrRange, 0, 0}, {math.MinInt64 + 1, api.ErrRange, 0, 0}}},
		{100, []stepping{
			{most - 99, api.ErrRange, 100, 0}, {most - 100, api.OK, most, 1}, {-most, api.OK, 0, 2}, {100, api.OK, 100, 3},
			{-most - 101, api.ErrRange, 100, 3}, {-most - 100, api.OK, -most, 4}, {-1, api.ErrRange, -most, 4}, {1, api.OK, -most + 1, 5},
			{-2, api.ErrRange, -most + 1, 5}, {math.MaxInt64, api.OK, most, 6},
		}},
		{most, []stepping{
			{math.MaxInt64, api.ErrRange, most, 0}, {1, api.ErrRange, most, 0}, {-1, api.OK, most - 1, 1}, {math.MinInt64, api.ErrRange, most - 1, 1},
			{math.MinInt64 + 1, api.OK, -most, 2}, {2 * (most - 1), api.OK, most - 2, 3}, {3, api.ErrRange, most - 2, 3},
		}},
	} {
		w, _ := made(t, way.start)
		for _, step := range way.list {
			checkStep(t, w, step.by, step.e, step.base, step.steps)
		}
	}
}

// P12.3: by hand: what is told behind a step, and that one that is refused moves nothing.
func TestSteppedByHand(t *testing.T) {
	w, _ := made(t, 1_000_000)
	checkStep(t, w, -1_000_001, api.OK, -1, 1)
	checkAt(t, w, 0, 0)
	checkAt(t, w, 2, 1)
	checkStep(t, w, most+2, api.ErrRange, -1, 1)
	checkAt(t, w, 2, 1)
	checkWhen(t, w, 1, 2, true)
	checkStep(t, w, most+1, api.OK, most, 2)
	checkAt(t, w, 0, most)
	checkStep(t, w, -most-7, api.OK, -7, 3)
	checkAt(t, w, 8, 1)
	checkStep(t, w, -most+6, api.ErrRange, -7, 3)
	checkAt(t, w, 8, 1)
	checkStep(t, w, -most+7, api.OK, -most, 4)
	checkAt(t, w, most, 0)
}

// P12.3: of all bases, steps of every kind, and those that come near to MaxTime and -MaxTime.
func TestStep(t *testing.T) {
	chance := rand.New(rand.NewPCG(123, 1))
	some := someNumbers(chance)
	went, refused := 0, 0
	for _, base := range someBases(chance) {
		for range 10 {
			by := some[chance.IntN(len(some))]
			w, m := wallOf(t, base)
			for near := int64(-2); near <= 2; near++ {
				for _, step := range []int64{by, most - m.base.Int64() + near, near, -most - m.base.Int64() + near, -by, near - by} {
					if move(t, w, m, step) == api.OK {
						went++
					} else {
						refused++
					}
				}
			}
			checkModel(t, w, m, 0, most, by)
		}
	}
	if went < 10_000 || refused < 10_000 {
		t.Errorf("went %d times, refused %d times", went, refused)
	}
}
