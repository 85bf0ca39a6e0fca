package wall_test

import (
	"math"
	"math/big"
	"math/rand/v2"
	"slices"
	"testing"

	"ephemeris/api"
	"ephemeris/wall"
)

// someMonos are monos near the ends, near where the wall comes to 0 and to MaxTime, and some of chance, in order.
func someMonos(chance *rand.Rand, base int64) []int64 {
	var list []int64
	for near := int64(-3); near <= 3; near++ {
		list = append(list, near, most+near, near-min(base, 0), most+near-max(base, 0))
	}
	for range 20 {
		list = append(list, chance.Int64(), -chance.Int64(), chance.Int64N(most+1)>>chance.IntN(62))
	}
	slices.Sort(list)
	return list
}

// P12.5: without a step the wall never goes back, and never goes faster than mono, from one mono to the next and from the first to each.
func TestNeverBack(t *testing.T) {
	chance := rand.New(rand.NewPCG(125, 1))
	for _, base := range someBases(chance) {
		w, _ := wallOf(t, base)
		monos := someMonos(chance, base)
		for i, mono := range monos[1:] {
			for _, ahead := range []int64{monos[i], monos[0]} {
				far := nearest(number(mono), 0, most) - nearest(number(ahead), 0, most)
				went := w.At(mono) - w.At(ahead)
				if went < 0 || went > far {
					t.Fatalf("of base %d: from mono %d to %d it goes by %d", base, ahead, mono, went)
				}
			}
		}
	}
}

// P12.5: nanosecond by nanosecond, round 0 and round MaxTime: by each of them it goes on by one, or it stands.
func TestOneByOne(t *testing.T) {
	for _, way := range []struct{ base, from, till, each int64 }{
		{0, -50, 0, 0}, {0, 0, 100, 1}, {0, most - 100, most, 1}, {0, most, most + 50, 0},
		{100, -200, 0, 0}, {100, 0, 200, 1}, {100, most - 300, most - 100, 1}, {100, most - 100, most + 50, 0},
		{-100, -200, 100, 0}, {-100, 100, 300, 1}, {-100, most - 200, most, 1}, {-100, most, most + 200, 0},
		{most, -50, 100, 0}, {most, most - 50, most + 50, 0}, {-most, -50, 100, 0}, {-most, most - 50, most + 50, 0},
		{most - 50, -50, 0, 0}, {most - 50, 0, 50, 1}, {most - 50, 50, 200, 0}, {50 - most, most - 200, most - 50, 0}, {50 - most, most - 50, most, 1},
	} {
		w, _ := wallOf(t, way.base)
		for mono := way.from; mono < way.till; mono++ {
			if went := w.At(mono+1) - w.At(mono); went != way.each {
				t.Fatalf("of base %d: from mono %d to the next it goes by %d; want %d", way.base, mono, went, way.each)
			}
		}
	}
}

// P12.5: a step, and one back by as much, change nothing of what is told; nor do steps that are refused.
func TestThereAndBack(t *testing.T) {
	chance := rand.New(rand.NewPCG(125, 2))
	went, refused := 0, 0
	for _, base := range someBases(chance) {
		w, _ := wallOf(t, base)
		for _, by := range []int64{0, 1, -1, base, -base, most - base, -most - base, chance.Int64(), -chance.Int64(), chance.Int64() >> 20, -(chance.Int64() >> 20)} {
			if by == math.MinInt64 {
				continue // what goes back by as much is no int64
			}
			ahead, steps := w.Copy(), w.Steps()
			if w.Step(by) == api.OK {
				went++
				checkStep(t, w, -by, api.OK, base, steps+2)
			} else {
				refused++
				checkHolds(t, w, base, steps)
			}
			for _, mono := range someMonos(chance, base) {
				checkAt(t, w, mono, ahead.At(mono))
				when, ok := ahead.When(mono)
				checkWhen(t, w, mono, when, ok)
			}
		}
	}
	if went < 500 || refused < 200 {
		t.Errorf("went %d times, refused %d times", went, refused)
	}
}

// checkReached holds what P12.6 says of a time; and is whether there is a mono at which it is told.
func checkReached(t *testing.T, w *wall.Wall, time int64) bool {
	t.Helper()
	mono, ok := w.When(time)
	told := w.At(mono)
	switch {
	case mono < 0 || mono > most || !ok && mono != 0:
		t.Fatalf("of base %d: When(%d) = %d, %t", w.Base(), time, mono, ok)
	case !ok && w.At(most) >= time:
		t.Fatalf("of base %d: When(%d) = %d, %t: at mono MaxTime it tells %d", w.Base(), time, mono, ok, w.At(most))
	case ok && told != time && (mono != 0 || told < time):
		t.Fatalf("of base %d: When(%d) = %d, %t: it tells %d there", w.Base(), time, mono, ok, told)
	case ok && mono > 0 && w.At(mono-1) >= time:
		t.Fatalf("of base %d: When(%d) = %d, %t: one ahead it tells %d", w.Base(), time, mono, ok, w.At(mono-1))
	}
	return ok
}

// P12.6: at When of a time it tells that time, or more, if at 0 it did already, and one nanosecond ahead less; if there is none, it is never told.
func TestReached(t *testing.T) {
	chance := rand.New(rand.NewPCG(126, 1))
	some := someNumbers(chance)
	told, none := 0, 0
	for _, base := range someBases(chance) {
		w, _ := wallOf(t, base)
		for _, time := range slices.Concat(some, someMonos(chance, base), someMonos(chance, -base)) {
			if checkReached(t, w, time) {
				told++
			} else {
				none++
			}
		}
	}
	if told < 10_000 || none < 10_000 {
		t.Errorf("told %d times, none %d times", told, none)
	}
}

// checkBack holds what P12.7 says of an amount in a stretch above 0; and is whether it says something.
func checkBack(t *testing.T, amount, stretch int64) bool {
	t.Helper()
	if rateOf(amount, stretch).CmpAbs(number(fastest)) > 0 {
		return false
	}
	slewed := wall.Slewed(wall.Rate(amount, stretch), stretch)
	apart := slewed - amount // away from 0
	if amount < 0 {
		apart = -apart
	}
	bound := number(stretch)
	part := new(big.Int).Mul(number(apart-1), number(billion))
	if apart < 0 || part.Cmp(bound) > 0 || (amount > 0) != (slewed > 0) || (amount < 0) != (slewed < 0) {
		t.Fatalf("amount %d, stretch %d: %d is slewed", amount, stretch, slewed)
	}
	return true
}

// P12.7: what is slewed by Rate of an amount has its sign, is not nearer to 0, and is within a part in 10^9 of the stretch, and one, of it.
func TestSlewsTheAmount(t *testing.T) {
	chance := rand.New(rand.NewPCG(127, 1))
	within, beyond := 0, 0
	for _, stretch := range someStretches(chance) {
		list := []int64{0, 1, -1, 2, -2}
		list = append(list, amountsNear(fastest, stretch)...)
		list = append(list, amountsNear(-fastest, stretch)...)
		for range 100 {
			amount := chance.Int64N(stretch/2000+2) >> chance.IntN(50)
			list = append(list, amount, -amount)
		}
		for _, amount := range list {
			if checkBack(t, amount, stretch) {
				within++
			} else {
				beyond++
			}
		}
	}
	if within < 10_000 || beyond < 500 {
		t.Errorf("within %d times, beyond %d times", within, beyond)
	}
}

// P12.7: by hand, what is slewed back of amounts at the bounds, and of such as leave something over.
func TestSlewsTheAmountByHand(t *testing.T) {
	for _, way := range []slewing{
		{1, 3_000_000, 1}, {-1, 3_000_000, -2}, {1000, billion, 1000}, {-1000, billion, -1000}, {500_000, billion, 500_000}, {-500_000, billion, -500_000},
		{1, 2000, 1}, {-1, 2000, -1}, {1, most, 4_611_686_018}, {-1, most, -4_611_686_019}, {4_611_686_019, most, 9_223_372_036}, {0, most, 0},
		{2_305_843_009_213_693, most, 2_305_843_009_213_693}, {-2_305_843_009_213_693, most, -2_305_843_009_213_694},
	} {
		if got := wall.Slewed(wall.Rate(way.n, way.stretch), way.stretch); got != way.want {
			t.Fatalf("amount %d, stretch %d: %d is slewed; want %d", way.n, way.stretch, got, way.want)
		}
		if !checkBack(t, way.n, way.stretch) {
			t.Fatalf("amount %d, stretch %d: beyond the bounds", way.n, way.stretch)
		}
	}
}
