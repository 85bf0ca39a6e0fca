package mono_test

import (
	"math/rand/v2"
	"testing"

	"ephemeris/api"
	"ephemeris/mono"
)

// checkPace holds that Mono went on by at least d less d / 2000 and 1, and at most d and d / 2000 and 1.
func checkPace(t *testing.T, d, grown int64) {
	t.Helper()
	apart := grown - d
	if apart < 0 {
		apart = -apart
	}
	if grown < 0 || 2000*(apart-1) > d {
		t.Fatalf("of %d Mono goes on by %d", d, grown)
	}
}

// someDelta is a raw delta of every kind, now and then one that may not be.
func someDelta(chance *rand.Rand) int64 {
	switch chance.IntN(8) {
	case 0:
		return chance.Int64N(4)
	case 1:
		return longest - chance.Int64N(4)
	case 2:
		return chance.Int64N(5000)
	case 3:
		return chance.Int64() >> chance.IntN(63)
	case 4:
		return -chance.Int64N(5000)
	}
	return chance.Int64N(longest) >> chance.IntN(50)
}

// P11.5: Mono never goes back, and goes on by what the chapter says, under many deltas and rates, wrong ones too, up to the end and beyond.
func TestNeverBack(t *testing.T) {
	chance := rand.New(rand.NewPCG(115, 1))
	refused, filled := 0, 0
	for range 50 {
		c := mono.New()
		if chance.IntN(2) == 0 {
			c = clockAt(t, most-100*longest-chance.Int64N(longest), most-100*longest-chance.Int64N(longest))
		}
		for range 2000 {
			before, raw, d := c.Mono(), c.Raw(), someDelta(chance)
			c.SetRate(chance.Int64N(2*fastest+11) - fastest - 5)
			if c.Mono() != before || c.Raw() != raw {
				t.Fatalf("a rate moves: Mono %d, Raw %d; were %d, %d", c.Mono(), c.Raw(), before, raw)
			}
			grown, e := c.Go(d)
			if c.Mono() < before || c.Raw() < raw || c.Mono() > most || c.Raw() > most {
				t.Fatalf("Go(%d): Mono %d, Raw %d; were %d, %d", d, c.Mono(), c.Raw(), before, raw)
			}
			switch e {
			case api.OK:
				checkPace(t, d, grown)
				if c.Mono()-before != grown || c.Raw()-raw != d {
					t.Fatalf("Go(%d) = %d: Mono %d, Raw %d; were %d, %d", d, grown, c.Mono(), c.Raw(), before, raw)
				}
			case api.ErrArg:
				refused++
			case api.ErrFull:
				filled++
			default:
				t.Fatalf("Go(%d): %d", d, e)
			}
		}
	}
	if refused < 1000 || filled < 1000 {
		t.Errorf("refused %d times, full %d times", refused, filled)
	}
}

// P11.5: raw nanoseconds one by one: Mono goes on by 0, 1 or 2 of each, and by what the rate says of all of them.
func TestOneByOne(t *testing.T) {
	chance := rand.New(rand.NewPCG(115, 2))
	for _, rate := range someRates(chance) {
		c := mono.New()
		checkRate(t, c, rate, api.OK)
		for n := int64(1); n <= 10_000; n++ {
			grown, e := c.Go(1)
			if e != api.OK || grown < 0 || grown > 2 || grown > 1 && rate <= 0 || grown < 1 && rate >= 0 {
				t.Fatalf("rate %d: the raw nanosecond %d: %d, %d", rate, n, grown, e)
			}
			checkPace(t, n, c.Mono())
		}
		other := mono.New()
		checkRate(t, other, rate, api.OK)
		if grown, e := other.Go(10_000); grown != c.Mono() || e != api.OK {
			t.Fatalf("rate %d: one by one %d, at once %d, %d", rate, c.Mono(), grown, e)
		}
	}
}

// parts are deltas of every size that make that one together.
func parts(chance *rand.Rand, d int64) []int64 {
	var list []int64
	for d > 0 {
		n := min(d, chance.Int64N(d+1)>>chance.IntN(20))
		if len(list) > 200 {
			n = d
		}
		list, d = append(list, n), d-n
	}
	return list
}

// P11.6: deltas one by one make what their sum makes, at one rate, behind a rest that is left of others; and what comes then is the same.
func TestParts(t *testing.T) {
	chance := rand.New(rand.NewPCG(116, 1))
	for _, rate := range someRates(chance) {
		for range 20 {
			many, m := made(t, chance.Int64N(2*fastest+1)-fastest)
			step(t, many, m, chance.Int64N(longest)>>chance.IntN(50))
			turn(t, many, m, rate)
			one, d, sum := many.Copy(), chance.Int64N(longest+1)>>chance.IntN(50), int64(0)
			for _, n := range parts(chance, d) {
				grown, e := many.Go(n)
				if e != api.OK {
					t.Fatalf("rate %d: Go(%d): %d", rate, n, e)
				}
				sum += grown
			}
			if grown, e := one.Go(d); grown != sum || e != api.OK || *one != *many {
				t.Fatalf("rate %d: %d at once %d, %d, in parts %d", rate, d, grown, e, sum)
			}
			m.run(d)
			checkModel(t, many, m)
			for range 3 {
				other := chance.Int64N(2*fastest+1) - fastest
				checkRate(t, one, other, api.OK)
				checkRate(t, many, other, api.OK)
				a, _ := one.Go(1)
				if b, _ := many.Go(1); a != b {
					t.Fatalf("rate %d: then %d, %d", rate, a, b)
				}
			}
		}
	}
}

// P11.6: more than MaxSpan in all, in parts of every size, against as few parts as may be: clocks that hold the same.
func TestPartsOfAll(t *testing.T) {
	chance := rand.New(rand.NewPCG(116, 2))
	for _, rate := range someRates(chance) {
		c, m := made(t, rate)
		for range 300 {
			step(t, c, m, chance.Int64N(longest)>>chance.IntN(50))
		}
		other := mono.New()
		checkRate(t, other, rate, api.OK)
		run(t, other, c.Raw())
		if *other != *c {
			t.Fatalf("rate %d: in parts %v, in as few as may be %v", rate, *c, *other)
		}
	}
}
