package mono_test

import (
	"math"
	"math/rand/v2"
	"testing"

	"ephemeris/api"
	"ephemeris/mono"
)

// looking is a time that is looked for, and what Until has to answer.
type looking struct {
	at, d int64
	ok    bool
}

// P11.4: by hand, of a new clock: below 0, now, a nanosecond ahead, at just MaxSpan, and a nanosecond further, at rates of every kind.
func TestUntilByHand(t *testing.T) {
	for _, way := range []struct {
		rate int64
		list []looking
	}{
		{0, []looking{
			{math.MinInt64, 0, true}, {-longest, 0, true}, {-1, 0, true}, {0, 0, true}, {1, 1, true}, {2, 2, true}, {1000, 1000, true},
			{longest - 1, longest - 1, true}, {longest, longest, true}, {longest + 1, 0, false}, {2 * longest, 0, false},
			{most, 0, false}, {most + 1, 0, false}, {math.MaxInt64, 0, false},
		}},
		{1, []looking{
			{0, 0, true}, {1, 1, true}, {999_999_999, 999_999_999, true}, {1_000_000_000, 1_000_000_000, true}, {1_000_000_001, 1_000_000_000, true},
			{1_000_000_002, 1_000_000_001, true}, {longest, longest - 1_125_899, true},
			{1_125_899_907_968_523, longest, true}, {1_125_899_907_968_524, 0, false},
		}},
		{-1, []looking{
			{-1, 0, true}, {0, 0, true}, {1, 2, true}, {2, 3, true}, {999_999_999, 1_000_000_000, true}, {1_000_000_000, 1_000_000_002, true},
			{1_125_899_905_716_724, longest, true}, {1_125_899_905_716_725, 0, false}, {longest, 0, false},
		}},
		{500_000, []looking{
			{math.MinInt64, 0, true}, {0, 0, true}, {1, 1, true}, {1999, 1999, true}, {2000, 2000, true}, {2001, 2000, true}, {2002, 2001, true},
			{4001, 4000, true}, {4002, 4000, true}, {1_126_462_856_796_044, longest - 1, true},
			{1_126_462_856_796_045, longest, true}, {1_126_462_856_796_046, 0, false}, {math.MaxInt64, 0, false},
		}},
		{-500_000, []looking{
			{0, 0, true}, {1, 2, true}, {1999, 2000, true}, {2000, 2002, true}, {3998, 4000, true}, {3999, 4002, true},
			{1_125_336_956_889_201, longest - 1, true}, {1_125_336_956_889_202, longest, true}, {1_125_336_956_889_203, 0, false},
		}},
	} {
		c := mono.New()
		checkRate(t, c, way.rate, api.OK)
		for _, look := range way.list {
			checkUntil(t, c, look.at, look.d, look.ok)
		}
	}
}

// P11.4: by hand, of a clock that has gone: times long ago, now and ahead are looked for from where it is, with its rest and at its rate as it is.
func TestUntilBehindByHand(t *testing.T) {
	c := mono.New()
	checkRate(t, c, 500_000, api.OK)
	checkGo(t, c, 1999, 1999, api.OK, 1999, 1999, false)
	for _, look := range []looking{
		{math.MinInt64, 0, true}, {-1, 0, true}, {0, 0, true}, {5, 0, true}, {1998, 0, true}, {1999, 0, true}, {2000, 1, true}, {2001, 1, true}, {2002, 2, true},
		{4001, 2001, true}, {4002, 2001, true}, {4003, 2002, true},
	} {
		checkUntil(t, c, look.at, look.d, look.ok)
	}
	checkRate(t, c, 0, api.OK)
	for _, look := range []looking{{1999, 0, true}, {2000, 1, true}, {2001, 2, true}, {longest + 1999, longest, true}, {longest + 2000, 0, false}} {
		checkUntil(t, c, look.at, look.d, look.ok)
	}
	checkRate(t, c, -500_000, api.OK)
	for _, look := range []looking{{1999, 0, true}, {2000, 1, true}, {3997, 1998, true}, {3998, 1999, true}, {3999, 2001, true}} {
		checkUntil(t, c, look.at, look.d, look.ok)
	}
	checkGo(t, c, 2001, 2000, api.OK, 3999, 4000, false)
}

// P11.4: by hand, near the end: Mono and the raw time come to MaxTime, and what would be beyond is never reached.
func TestUntilFullByHand(t *testing.T) {
	for _, way := range []struct {
		mono, raw, rate int64
		list            []looking
	}{
		{most - 10, most - 20, 0, []looking{{most - 11, 0, true}, {most - 10, 0, true}, {most - 1, 9, true}, {most, 10, true}, {most + 1, 0, false}, {math.MaxInt64, 0, false}}},
		{most, most - 20, 0, []looking{{0, 0, true}, {most - 1, 0, true}, {most, 0, true}, {most + 1, 0, false}, {most + 30, 0, false}}},
		{most - 1999, most - 2500, fastest, []looking{{most - 1, 1998, true}, {most, 1999, true}, {most + 1, 0, false}, {most + 2, 0, false}}},
		{most - 2000, most - 2500, fastest, []looking{{most - 1, 1999, true}, {most, 2000, true}, {most + 1, 0, false}}},
		// The raw time would be above its end first: Mono is what it would be all the same.
		{most - 20, most - 10, 0, []looking{{most - 10, 10, true}, {most - 9, 11, true}, {most, 20, true}, {most + 1, 0, false}}},
		{most - 2500, most, -fastest, []looking{{most - 2500, 0, true}, {most - 2499, 2, true}, {most, 2502, true}, {most + 1, 0, false}}},
		{most - longest, most - longest, 0, []looking{{most, longest, true}, {most + 1, 0, false}}},
		{most - longest - 1, most - longest - 1, 0, []looking{{most - 1, longest, true}, {most, 0, false}}},
	} {
		c := clockAt(t, way.mono, way.raw)
		checkRate(t, c, way.rate, api.OK)
		for _, look := range way.list {
			checkUntil(t, c, look.at, look.d, look.ok)
			if other := c.Copy(); look.ok {
				other.Go(look.d)
				if other.Mono() < look.at {
					t.Fatalf("Until(%d) = %d, %t: Mono %d behind it", look.at, look.d, look.ok, other.Mono())
				}
			}
		}
	}
}

// P11.4: of all rates, behind deltas of every kind, times of every kind: also those that just MaxSpan reaches, and just not.
func TestUntil(t *testing.T) {
	chance := rand.New(rand.NewPCG(114, 1))
	for _, rate := range someRates(chance) {
		for range 10 {
			c, m := made(t, chance.Int64N(2*fastest+1)-fastest)
			for range chance.IntN(4) {
				step(t, c, m, chance.Int64N(longest)>>chance.IntN(50))
			}
			turn(t, c, m, rate)
			far := m.copied()
			far.run(longest)
			for near := int64(-3); near <= 3; near++ {
				ask(t, c, m, near)
				ask(t, c, m, m.mono()+near)
				ask(t, c, m, far.mono()+near)
				ask(t, c, m, most+near)
				ask(t, c, m, m.mono()+2000+near)
			}
			for _, d := range someDeltas(chance) {
				ask(t, c, m, m.mono()+d)
			}
			for range 10 {
				ask(t, c, m, chance.Int64()>>chance.IntN(63))
				ask(t, c, m, -(chance.Int64() >> chance.IntN(63)))
			}
		}
	}
}

// P11.4: just below the end, times up to it and beyond, whichever is full first.
func TestUntilAlmostFull(t *testing.T) {
	chance := rand.New(rand.NewPCG(114, 2))
	for _, rate := range someRates(chance) {
		at, raw := most-chance.Int64N(1000), most-chance.Int64N(1000)
		c, m := clockAt(t, at, raw), modelAt(at, raw)
		turn(t, c, m, rate)
		for near := int64(-1010); near <= 10; near++ {
			ask(t, c, m, most+near)
		}
		ask(t, c, m, math.MaxInt64)
		ask(t, c, m, math.MinInt64)
	}
}

// checkLeast holds that behind what Until tells Mono is at least that, and one ahead not, nor behind MaxSpan, if it tells none; and is whether it told one.
func checkLeast(t *testing.T, c *mono.Clock, at int64) bool {
	t.Helper()
	behind := func(d int64) int64 {
		other := c.Copy()
		other.Go(d)
		return other.Mono()
	}
	d, ok := c.Until(at)
	switch {
	case d < 0 || d > longest || !ok && d != 0:
		t.Fatalf("Until(%d) = %d, %t", at, d, ok)
	case !ok && behind(longest) >= at:
		t.Fatalf("Until(%d) = %d, %t: behind MaxSpan it is %d", at, d, ok, behind(longest))
	case ok && behind(d) < at:
		t.Fatalf("Until(%d) = %d, %t: behind it it is %d", at, d, ok, behind(d))
	case ok && d > 0 && behind(d-1) >= at:
		t.Fatalf("Until(%d) = %d, %t: one ahead it is %d", at, d, ok, behind(d-1))
	}
	return ok
}

// P11.4: what Until tells is the least delta: reached then, and not one ahead, under many rates and rests, at the end too.
func TestUntilLeast(t *testing.T) {
	chance := rand.New(rand.NewPCG(114, 3))
	told, none := 0, 0
	count := func(ok bool) {
		if ok {
			told++
		} else {
			none++
		}
	}
	for _, rate := range someRates(chance) {
		c, m := made(t, rate)
		for range 30 {
			for _, d := range someDeltas(chance) {
				count(checkLeast(t, c, c.Mono()+d))
			}
			count(checkLeast(t, c, c.Mono()+longest+chance.Int64N(longest/1000)-longest/2000))
			count(checkLeast(t, c, chance.Int64()))
			step(t, c, m, chance.Int64N(longest)>>chance.IntN(50))
		}
		end := clockAt(t, most-chance.Int64N(2000), most-chance.Int64N(2000))
		checkRate(t, end, rate, api.OK)
		for range 100 {
			count(checkLeast(t, end, most+10-chance.Int64N(2100)))
		}
	}
	if told < 10_000 || none < 1000 {
		t.Errorf("told %d times, none %d times", told, none)
	}
}
