package wall_test

import (
	"math"
	"math/big"
	"math/rand/v2"
	"slices"
	"sort"
	"testing"

	"ephemeris/api"
	"ephemeris/wall"
)

const (
	most    = 4_611_686_018_427_387_904 // MaxTime
	fastest = 500_000                   // MaxSlew
	billion = 1_000_000_000
)

// model is what a wall has to hold, in exact numbers.
type model struct {
	base  *big.Int
	steps int
}

func number(n int64) *big.Int { return big.NewInt(n) }

// modelOf is what a new wall has to hold.
func modelOf(start int64) *model { return &model{base: number(start)} }

// copied is a model of its own that holds the same.
func (m *model) copied() *model { return &model{base: new(big.Int).Set(m.base), steps: m.steps} }

// nearest is the number from lo to hi that is next to n.
func nearest(n *big.Int, lo, hi int64) int64 {
	if n.Cmp(number(lo)) < 0 {
		return lo
	}
	if n.Cmp(number(hi)) > 0 {
		return hi
	}
	return n.Int64()
}

// at is what At has to tell.
func (m *model) at(mono int64) int64 {
	counts := number(nearest(number(mono), 0, most))
	return nearest(counts.Add(counts, m.base), 0, most)
}

// when is what When has to tell: it looks among all monos by halves.
func (m *model) when(time int64) (int64, bool) {
	mono := sort.Search(most+1, func(mono int) bool { return m.at(int64(mono)) >= time })
	if mono > most {
		return 0, false
	}
	return int64(mono), true
}

// step is what Step has to answer, and what the wall holds then.
func (m *model) step(by int64) api.Errno {
	base := new(big.Int).Add(m.base, number(by))
	if base.CmpAbs(number(most)) > 0 {
		return api.ErrRange
	}
	m.base = base
	m.steps++
	return api.OK
}

// checkHolds holds what the wall tells against what it has to hold.
func checkHolds(t *testing.T, w *wall.Wall, base int64, steps int) {
	t.Helper()
	if w.Base() != base || w.Steps() != steps {
		t.Fatalf("Base %d, Steps %d; want %d, %d", w.Base(), w.Steps(), base, steps)
	}
}

// checkAt holds one At, which changes nothing.
func checkAt(t *testing.T, w *wall.Wall, mono, want int64) {
	t.Helper()
	base, steps := w.Base(), w.Steps()
	if got := w.At(mono); got != want {
		t.Fatalf("of base %d: At(%d) = %d; want %d", base, mono, got, want)
	}
	checkHolds(t, w, base, steps)
}

// checkWhen holds one When, which changes nothing.
func checkWhen(t *testing.T, w *wall.Wall, time, mono int64, ok bool) {
	t.Helper()
	base, steps := w.Base(), w.Steps()
	if got, gotten := w.When(time); got != mono || gotten != ok {
		t.Fatalf("of base %d: When(%d) = %d, %t; want %d, %t", base, time, got, gotten, mono, ok)
	}
	checkHolds(t, w, base, steps)
}

// checkStep holds one Step, and what the wall has behind it.
func checkStep(t *testing.T, w *wall.Wall, by int64, e api.Errno, base int64, steps int) {
	t.Helper()
	before := w.Base()
	if got := w.Step(by); got != e {
		t.Fatalf("of base %d: Step(%d) = %d; want %d", before, by, got, e)
	}
	checkHolds(t, w, base, steps)
}

// checkModel holds the wall against its model.
func checkModel(t *testing.T, w *wall.Wall, m *model, monos ...int64) {
	t.Helper()
	checkHolds(t, w, m.base.Int64(), m.steps)
	for _, mono := range monos {
		checkAt(t, w, mono, m.at(mono))
	}
}

// move steps the wall and its model, holds one against the other, and is the error.
func move(t *testing.T, w *wall.Wall, m *model, by int64) api.Errno {
	t.Helper()
	e := m.step(by)
	checkStep(t, w, by, e, m.base.Int64(), m.steps)
	return e
}

// made is a new wall that tells start at mono 0, and its model.
func made(t *testing.T, start int64) (*wall.Wall, *model) {
	t.Helper()
	w, e := wall.New(start)
	if w == nil || e != api.OK {
		t.Fatalf("New(%d) = %p, %d", start, w, e)
	}
	m := modelOf(start)
	checkModel(t, w, m, 0)
	return w, m
}

// wallOf is a wall of any base, of that many steps ahead, and its model.
func wallOf(t *testing.T, base int64) (*wall.Wall, *model) {
	t.Helper()
	if base >= 0 {
		return made(t, base)
	}
	w, m := made(t, 0)
	if e := move(t, w, m, base); e != api.OK {
		t.Fatalf("Step(%d) = %d", base, e)
	}
	return w, m
}

// someTimes are times of every kind: ends, single bits, whole seconds, and some of chance.
func someTimes(chance *rand.Rand) []int64 {
	list := []int64{0, 1, 2, 3, 999, 1000, 1001, billion - 1, billion, billion + 1, most - billion, most - 3, most - 2, most - 1, most, most / 2, most/2 + 1}
	for bit := range 63 {
		list = append(list, 1<<bit, 1<<bit-1)
	}
	for range 20 {
		list = append(list, chance.Int64N(most+1), chance.Int64N(most+1)>>chance.IntN(62))
	}
	return list
}

// noTimes are numbers that are no times, also such as are some in a narrower number.
func noTimes(chance *rand.Rand) []int64 {
	list := []int64{
		-1, -2, -billion, -most, -most - 1, -most + 1, most + 1, most + 2, most + billion,
		math.MaxInt64, math.MaxInt64 - 1, math.MinInt64, math.MinInt64 + 1, math.MinInt64 + 2,
	}
	for bit := range 62 {
		list = append(list, -1<<bit, most+1<<bit)
	}
	for range 20 {
		list = append(list, -1-chance.Int64()>>chance.IntN(63), most+1+chance.Int64N(most-1)>>chance.IntN(62))
	}
	return slices.DeleteFunc(list, func(n int64) bool { return n >= 0 && n <= most })
}

// someNumbers are numbers of every kind, times and others.
func someNumbers(chance *rand.Rand) []int64 {
	return slices.Concat(someTimes(chance), noTimes(chance))
}

// someBases are bases of every kind, above 0 and below.
func someBases(chance *rand.Rand) []int64 {
	list := someTimes(chance)
	for _, base := range slices.Clone(list) {
		list = append(list, -base)
	}
	return list
}

// P12.1 to P12.4: the chapter's examples.
func TestExamples(t *testing.T) {
	w, e := wall.New(100)
	if e != api.OK {
		t.Fatalf("New(100): %d", e)
	}
	checkAt(t, w, 5, 105)
	checkStep(t, w, -50, api.OK, 50, 1)
	checkAt(t, w, 5, 55)
	checkWhen(t, w, 60, 10, true)
	checkRate(t, 1000, 1_000_000_000, 1000)
	checkRate(t, 1_000_000_000, 1_000_000_000, 500_000)
	checkRate(t, -1, 3_000_000, -334)
}

// P12.1: a start of 0, of MaxTime, one above it, below 0, and the ends, by hand.
func TestNewByHand(t *testing.T) {
	if api.MaxTime != most || api.MaxSlew != fastest || api.Second != billion {
		t.Fatalf("MaxTime %d, MaxSlew %d, Second %d", int64(api.MaxTime), int64(api.MaxSlew), int64(api.Second))
	}
	for _, way := range []struct {
		start int64
		e     api.Errno
	}{
		{0, api.OK}, {1, api.OK}, {4_611_686_018_427_387_903, api.OK}, {4_611_686_018_427_387_904, api.OK},
		{4_611_686_018_427_387_905, api.ErrArg}, {-1, api.ErrArg}, {-4_611_686_018_427_387_904, api.ErrArg},
		{math.MaxInt64, api.ErrArg}, {math.MinInt64, api.ErrArg}, {math.MinInt64 + 1, api.ErrArg},
	} {
		w, e := wall.New(way.start)
		if e != way.e || (w == nil) == (e == api.OK) {
			t.Fatalf("New(%d) = %p, %d; want %d", way.start, w, e, way.e)
		}
		if e == api.OK {
			checkHolds(t, w, way.start, 0)
			checkAt(t, w, 0, way.start)
		}
	}
}

// P12.1: of all starts that may be, and all others.
func TestNew(t *testing.T) {
	chance := rand.New(rand.NewPCG(121, 1))
	for _, start := range someTimes(chance) {
		w, _ := made(t, start)
		other, m := made(t, start)
		if w == other {
			t.Fatalf("New(%d) is twice the very one", start)
		}
		w.Step(-start)
		checkModel(t, other, m, 0, most)
	}
	for _, start := range noTimes(chance) {
		if w, e := wall.New(start); w != nil || e != api.ErrArg {
			t.Fatalf("New(%d) = %p, %d", start, w, e)
		}
	}
}

// telling is a mono, and what the wall has to tell at it.
type telling struct{ mono, time int64 }

// P12.1: by hand, of a base of 0, above 0 and below: monos at which it comes to just 0 or MaxTime, one ahead and one behind; those that are none.
func TestAtByHand(t *testing.T) {
	for _, way := range []struct {
		base int64
		list []telling
	}{
		{0, []telling{
			{math.MinInt64, 0}, {-most, 0}, {-1, 0}, {0, 0}, {1, 1}, {2, 2}, {most - 1, most - 1}, {most, most}, {most + 1, most}, {math.MaxInt64, most},
		}},
		{100, []telling{
			{math.MinInt64, 100}, {-101, 100}, {-100, 100}, {-1, 100}, {0, 100}, {1, 101}, {most - 102, most - 2},
			{most - 101, most - 1}, {most - 100, most}, {most - 99, most}, {most, most}, {most + 1, most}, {math.MaxInt64, most},
		}},
		{-100, []telling{
			{math.MinInt64, 0}, {-1, 0}, {0, 0}, {1, 0}, {98, 0}, {99, 0}, {100, 0}, {101, 1}, {102, 2},
			{most - 1, most - 101}, {most, most - 100}, {most + 1, most - 100}, {most + 100, most - 100}, {math.MaxInt64, most - 100},
		}},
		{1, []telling{{-1, 1}, {0, 1}, {1, 2}, {most - 2, most - 1}, {most - 1, most}, {most, most}, {most + 1, most}}},
		{-1, []telling{{-1, 0}, {0, 0}, {1, 0}, {2, 1}, {3, 2}, {most, most - 1}, {most + 1, most - 1}, {most + 2, most - 1}}},
		{most, []telling{{math.MinInt64, most}, {-most, most}, {-1, most}, {0, most}, {1, most}, {most - 1, most}, {most, most}, {math.MaxInt64, most}}},
		{most - 1, []telling{{math.MinInt64, most - 1}, {-1, most - 1}, {0, most - 1}, {1, most}, {2, most}, {most, most}, {math.MaxInt64, most}}},
		{-most, []telling{{math.MinInt64, 0}, {-1, 0}, {0, 0}, {1, 0}, {most - 1, 0}, {most, 0}, {most + 1, 0}, {math.MaxInt64, 0}}},
		{-most + 1, []telling{{math.MinInt64, 0}, {0, 0}, {most - 2, 0}, {most - 1, 0}, {most, 1}, {most + 1, 1}, {math.MaxInt64, 1}}},
	} {
		w, _ := wallOf(t, way.base)
		for _, told := range way.list {
			checkAt(t, w, told.mono, told.time)
		}
	}
}

// P12.1: of all bases, at monos of every kind, and near those at which it comes to 0 or to MaxTime.
func TestAt(t *testing.T) {
	chance := rand.New(rand.NewPCG(121, 2))
	monos := someNumbers(chance)
	for _, base := range someBases(chance) {
		w, m := wallOf(t, base)
		checkModel(t, w, m, monos...)
		for near := int64(-3); near <= 3; near++ {
			checkModel(t, w, m, near, near-base, near+base, most+near, most+near-max(base, 0))
		}
	}
}

// P12.1 to P12.3: none, and a wall that New did not make: each call, with arguments that may be or not, and each again behind the others.
func TestNotMade(t *testing.T) {
	var none *wall.Wall
	var holder struct{ at wall.Wall }
	for _, w := range []*wall.Wall{none, new(wall.Wall), {}, &holder.at} {
		for range 3 {
			checkHolds(t, w, 0, 0)
			for _, n := range []int64{0, 1, -1, 100, -100, billion, most - 1, most, most + 1, -most, -most - 1, math.MaxInt64, math.MinInt64} {
				checkAt(t, w, n, 0)
				checkWhen(t, w, n, 0, false)
				checkStep(t, w, n, api.ErrNil, 0, 0)
			}
			if other := w.Copy(); other != nil {
				t.Errorf("a copy of none: %v", other)
			}
		}
	}
}

// checkApart steps one of two walls that have the same, and holds that the other one stays; then that one.
func checkApart(t *testing.T, chance *rand.Rand, one, other *wall.Wall, m *model) {
	t.Helper()
	if one == other {
		t.Fatal("a copy is the very one")
	}
	kept := m.copied()
	for range 5 {
		move(t, one, m, chance.Int64()>>chance.IntN(63))
		move(t, one, m, -(chance.Int64() >> chance.IntN(63)))
		checkModel(t, other, kept, 0, most, chance.Int64())
	}
	for range 5 {
		move(t, other, kept, chance.Int64()>>chance.IntN(63))
		move(t, other, kept, -(chance.Int64() >> chance.IntN(63)))
		checkModel(t, one, m, 0, most, chance.Int64())
	}
}

// P12.1: by hand: a copy has the base and the steps; then each is stepped alone.
func TestCopyByHand(t *testing.T) {
	w, _ := made(t, 100)
	checkStep(t, w, -30, api.OK, 70, 1)
	other := w.Copy()
	checkHolds(t, other, 70, 1)
	checkStep(t, other, 5, api.OK, 75, 2)
	checkHolds(t, w, 70, 1)
	checkAt(t, w, 1, 71)
	checkAt(t, other, 1, 76)
	checkStep(t, w, -80, api.OK, -10, 2)
	checkStep(t, w, 1, api.OK, -9, 3)
	checkHolds(t, other, 75, 2)
	checkAt(t, other, 1, 76)
	checkWhen(t, w, 1, 10, true)
	checkWhen(t, other, 76, 1, true)
}

// P12.1: a copy and what it was made of have the same, and live apart, whichever is stepped.
func TestCopy(t *testing.T) {
	chance := rand.New(rand.NewPCG(121, 3))
	for _, base := range someBases(chance) {
		w, m := wallOf(t, base)
		for range chance.IntN(4) {
			move(t, w, m, chance.Int64()>>chance.IntN(63))
		}
		other := w.Copy()
		checkModel(t, w, m, 0, 1, most)
		checkModel(t, other, m, 0, 1, most)
		checkApart(t, chance, w, other, m)
		again, mine := wallOf(t, base)
		checkApart(t, chance, again.Copy(), again, mine)
	}
}

// P12.1: copies of copies, of a wall that is stepped between them, each as it was then.
func TestCopies(t *testing.T) {
	w, m := made(t, most/2)
	var copies []*wall.Wall
	var models []*model
	for n := range int64(100) {
		copies, models = append(copies, w.Copy().Copy()), append(models, m.copied())
		move(t, w, m, n*n*7919-n*400_000)
	}
	for i := range copies {
		checkModel(t, copies[i], models[i], 0, 5, most)
		move(t, copies[i], models[i], 5_000_000)
	}
	checkModel(t, w, m, 0, 5, most)
}
