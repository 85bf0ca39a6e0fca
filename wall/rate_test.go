package wall_test

import (
	"math"
	"math/big"
	"math/rand/v2"
	"slices"
	"testing"

	"ephemeris/wall"
)

// checkRate holds one Rate.
func checkRate(t *testing.T, amount, stretch, want int64) {
	t.Helper()
	if got := wall.Rate(amount, stretch); got != want {
		t.Fatalf("Rate(%d, %d) = %d; want %d", amount, stretch, got, want)
	}
}

// checkSlewed holds one Slewed.
func checkSlewed(t *testing.T, rate, stretch, want int64) {
	t.Helper()
	if got := wall.Slewed(rate, stretch); got != want {
		t.Fatalf("Slewed(%d, %d) = %d; want %d", rate, stretch, got, want)
	}
}

// rateOf is the rate of an amount in a stretch above 0, away from 0, in exact numbers, whatever its bounds.
func rateOf(amount, stretch int64) *big.Int {
	n := new(big.Int).Abs(number(amount))
	n.Mul(n, number(billion))
	n.Add(n, number(stretch-1)).Quo(n, number(stretch))
	if amount < 0 {
		n.Neg(n)
	}
	return n
}

// wantRate is what Rate has to answer.
func wantRate(amount, stretch int64) int64 {
	stretch = nearest(number(stretch), 0, most)
	if stretch == 0 {
		return 0
	}
	return nearest(rateOf(amount, stretch), -fastest, fastest)
}

// wantSlewed is what Slewed has to answer.
func wantSlewed(rate, stretch int64) int64 {
	n := number(nearest(number(rate), -fastest, fastest))
	n.Mul(n, number(nearest(number(stretch), 0, most)))
	return n.Div(n, number(billion)).Int64() // down, as what it is divided by is above 0
}

// someRates are numbers of every kind as rates: the ends, one beyond each, small ones and far ones, and some of chance.
func someRates(chance *rand.Rand) []int64 {
	list := []int64{0, 1, -1, 2, -2, 3, -3, 10, -10, 333, -333, 1000, -1000, 250_000, -250_000, billion, -billion, math.MaxInt32, math.MinInt32, math.MaxInt64, math.MinInt64}
	for near := int64(-3); near <= 3; near++ {
		list = append(list, fastest+near, -fastest+near, 1<<32+near, most+near)
	}
	for range 20 {
		list = append(list, chance.Int64N(2*fastest+1)-fastest, chance.Int64()>>chance.IntN(63), -(chance.Int64() >> chance.IntN(63)))
	}
	return list
}

// someStretches are stretches of every kind above 0.
func someStretches(chance *rand.Rand) []int64 {
	return slices.DeleteFunc(someTimes(chance), func(stretch int64) bool { return stretch == 0 })
}

// slewing is an amount or a rate, a stretch, and what has to come of them.
type slewing struct{ n, stretch, want int64 }

// P12.4: Rate by hand: no amount and no stretch, quotients that come out whole or not, above 0 and below, just within the bounds and beyond, and the ends.
func TestRateByHand(t *testing.T) {
	for _, way := range []slewing{
		// No amount; no stretch, and one below 0.
		{0, 0, 0}, {0, 1, 0}, {0, billion, 0}, {0, most, 0}, {0, -1, 0}, {0, math.MaxInt64, 0}, {0, math.MinInt64, 0},
		{1, 0, 0}, {-1, 0, 0}, {billion, 0, 0}, {math.MaxInt64, 0, 0}, {math.MinInt64, 0, 0},
		{1, -1, 0}, {-1, -1, 0}, {1000, -billion, 0}, {-1000, -billion, 0}, {1, math.MinInt64, 0}, {math.MaxInt64, math.MinInt64, 0}, {math.MinInt64, math.MinInt64, 0},
		// A stretch of one: all is beyond.
		{1, 1, 500_000}, {-1, 1, -500_000}, {billion, 1, 500_000}, {math.MaxInt64, 1, 500_000}, {math.MinInt64, 1, -500_000}, {math.MinInt64, 2, -500_000},
		// Whole.
		{1, billion, 1}, {-1, billion, -1}, {1000, billion, 1000}, {-1000, billion, -1000}, {1, 2000, 500_000}, {-1, 2000, -500_000}, {1, 4000, 250_000}, {-1, 4000, -250_000},
		{7, 28_000_000, 250}, {-7, 28_000_000, -250}, {32_000, 64_000_000_000, 500}, {-32_000, 64_000_000_000, -500},
		// Not whole: away from 0.
		{1, 3_000_000, 334}, {-1, 3_000_000, -334}, {2, 3_000_000, 667}, {-2, 3_000_000, -667}, {1, billion + 1, 1}, {-1, billion + 1, -1}, {2, billion + 1, 2}, {-2, billion + 1, -2},
		{1, billion - 1, 2}, {-1, billion - 1, -2}, {1, 2 * billion, 1}, {-1, 2 * billion, -1}, {3, 2 * billion, 2}, {-3, 2 * billion, -2},
		{1, most, 1}, {-1, most, -1}, {4_611_686_018, most, 1}, {-4_611_686_018, most, -1}, {4_611_686_019, most, 2}, {-4_611_686_019, most, -2},
		// Just the bounds, one beyond, a part beyond, a part ahead, and far beyond.
		{499_999, billion, 499_999}, {-499_999, billion, -499_999}, {500_000, billion, 500_000}, {-500_000, billion, -500_000},
		{500_001, billion, 500_000}, {-500_001, billion, -500_000}, {500_002, billion, 500_000}, {-500_002, billion, -500_000},
		{1, 2001, 499_751}, {-1, 2001, -499_751}, {1, 1999, 500_000}, {-1, 1999, -500_000}, {999_999, 2 * billion, 500_000}, {-999_999, 2 * billion, -500_000},
		{999_997, 2 * billion, 499_999}, {-999_997, 2 * billion, -499_999}, {1_000_001, 2 * billion, 500_000}, {-1_000_001, 2 * billion, -500_000},
		{500_000, billion + 1, 500_000}, {-500_000, billion + 1, -500_000}, {500_000, billion - 1, 500_000}, {-500_000, billion - 1, -500_000},
		{billion, billion, 500_000}, {-billion, billion, -500_000}, {billion + 1, billion, 500_000}, {-billion - 1, billion, -500_000},
		{2_305_843_009_213_693, most, 500_000}, {-2_305_843_009_213_693, most, -500_000}, {2_305_843_009_213_694, most, 500_000}, {-2_305_843_009_213_694, most, -500_000},
		{2_305_838_397_527_675, most, 499_999}, {-2_305_838_397_527_675, most, -499_999}, {2_305_838_397_527_676, most, 500_000}, {-2_305_838_397_527_676, most, -500_000},
		// The ends, and a stretch above MaxTime, which counts as that.
		{math.MaxInt64, most, 500_000}, {math.MinInt64, most, -500_000}, {math.MinInt64 + 1, most, -500_000}, {most, most, 500_000}, {-most, most, -500_000},
		{math.MaxInt64, math.MaxInt64, 500_000}, {math.MinInt64, math.MaxInt64, -500_000}, {math.MaxInt64, billion, 500_000}, {math.MinInt64, billion, -500_000},
		{4_611_686_019, most + 1, 2}, {-4_611_686_019, most + 1, -2}, {4_611_686_019, math.MaxInt64, 2}, {-4_611_686_019, math.MaxInt64, -2},
		{2_305_838_397_527_676, math.MaxInt64, 500_000}, {-2_305_838_397_527_676, math.MaxInt64, -500_000},
	} {
		checkRate(t, way.n, way.stretch, way.want)
	}
}

// P12.4: Slewed by hand: whole, and with something over, above 0 and below; the ends of the rates, one beyond each, and of the stretches.
func TestSlewedByHand(t *testing.T) {
	for _, way := range []slewing{
		{0, 0, 0}, {0, 1, 0}, {0, billion, 0}, {0, most, 0}, {0, math.MaxInt64, 0}, {0, -1, 0},
		{500_000, 0, 0}, {-500_000, 0, 0}, {500_000, -1, 0}, {-500_000, -1, 0}, {-1, -billion, 0}, {1, math.MinInt64, 0}, {-1, math.MinInt64, 0},
		{500_000, 1, 0}, {500_000, 1999, 0}, {500_000, 2000, 1}, {500_000, 2001, 1}, {500_000, 3999, 1}, {500_000, 4000, 2}, {500_000, billion, 500_000},
		{-500_000, 1, -1}, {-500_000, 1999, -1}, {-500_000, 2000, -1}, {-500_000, 2001, -2}, {-500_000, 3999, -2}, {-500_000, 4000, -2}, {-500_000, billion, -500_000},
		{1, 1, 0}, {1, billion - 1, 0}, {1, billion, 1}, {1, billion + 1, 1}, {1, 2*billion - 1, 1}, {1, 2 * billion, 2},
		{-1, 1, -1}, {-1, billion - 1, -1}, {-1, billion, -1}, {-1, billion + 1, -2}, {-1, 2*billion - 1, -2}, {-1, 2 * billion, -2},
		{334, 3_000_000, 1}, {-334, 3_000_000, -2}, {333, 3_000_000, 0}, {-333, 3_000_000, -1},
		{499_999, billion, 499_999}, {-499_999, billion, -499_999}, {499_999, 2000, 0}, {-499_999, 2000, -1},
		{500_001, 2000, 1}, {-500_001, 2000, -1}, {500_001, billion, 500_000}, {-500_001, billion, -500_000}, {500_002, billion, 500_000}, {-500_002, billion, -500_000},
		{billion, billion, 500_000}, {-billion, billion, -500_000}, {math.MaxInt64, billion, 500_000}, {math.MinInt64, billion, -500_000}, {math.MaxInt64, 1, 0}, {math.MinInt64, 1, -1},
		{1, most, 4_611_686_018}, {-1, most, -4_611_686_019}, {1, most + 1, 4_611_686_018}, {-1, most + 1, -4_611_686_019},
		{1, math.MaxInt64, 4_611_686_018}, {-1, math.MaxInt64, -4_611_686_019},
		{500_000, most, 2_305_843_009_213_693}, {-500_000, most, -2_305_843_009_213_694}, {500_000, most - 1, 2_305_843_009_213_693}, {-500_000, most - 1, -2_305_843_009_213_694},
		{500_000, math.MaxInt64, 2_305_843_009_213_693}, {-500_000, math.MaxInt64, -2_305_843_009_213_694},
		{math.MaxInt64, math.MaxInt64, 2_305_843_009_213_693}, {math.MinInt64, math.MaxInt64, -2_305_843_009_213_694},
	} {
		checkSlewed(t, way.n, way.stretch, way.want)
	}
}

// P12.4: Rate of amounts and stretches of every kind, against exact numbers.
func TestRate(t *testing.T) {
	chance := rand.New(rand.NewPCG(124, 1))
	some := someNumbers(chance)
	for _, stretch := range some {
		for _, amount := range some {
			checkRate(t, amount, stretch, wantRate(amount, stretch))
		}
	}
}

// amountsNear are amounts of which the rate in that stretch comes to just that, or near to it.
func amountsNear(rate, stretch int64) []int64 {
	n := number(rate)
	n.Mul(n, number(stretch)).Quo(n, number(billion))
	var list []int64
	for near := int64(-2); near <= 2; near++ {
		list = append(list, n.Int64()+near)
	}
	return list
}

// P12.4: Rate of amounts that come near to every kind of rate, the bounds above all, against exact numbers.
func TestRateNear(t *testing.T) {
	chance := rand.New(rand.NewPCG(124, 2))
	within, beyond := 0, 0
	for _, stretch := range someStretches(chance) {
		rates := []int64{fastest, -fastest, fastest + 1, -fastest - 1, 1, -1}
		for range 20 {
			rates = append(rates, chance.Int64N(2*fastest+1)-fastest)
		}
		for _, rate := range rates {
			for _, amount := range amountsNear(rate, stretch) {
				want := wantRate(amount, stretch)
				checkRate(t, amount, stretch, want)
				if want > -fastest && want < fastest {
					within++
				} else {
					beyond++
				}
			}
		}
	}
	if within < 5000 || beyond < 5000 {
		t.Errorf("within %d times, beyond %d times", within, beyond)
	}
}

// P12.4: Slewed of rates and stretches of every kind, against exact numbers, and where the quotient is just whole, one ahead and one behind.
func TestSlewed(t *testing.T) {
	chance := rand.New(rand.NewPCG(124, 3))
	some := someNumbers(chance)
	for _, rate := range someRates(chance) {
		whole := number(nearest(number(rate), -fastest, fastest))
		whole.GCD(nil, nil, whole.Abs(whole), number(billion))
		each := billion / max(whole.Int64(), 1)
		for _, stretch := range slices.Concat(some, []int64{each - 1, each, each + 1, 7*each - 1, 7 * each, 7*each + 1}) {
			checkSlewed(t, rate, stretch, wantSlewed(rate, stretch))
		}
	}
}
