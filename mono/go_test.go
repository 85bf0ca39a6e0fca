package mono_test

import (
	"math"
	"math/big"
	"math/rand/v2"
	"testing"

	"ephemeris/api"
	"ephemeris/mono"
)

// turning is a rate that is set, raw deltas that go then, and by how much Mono goes on of each.
type turning struct {
	rate   int64
	deltas []int64
	grown  []int64
}

// P11.2, P11.3: by hand: deltas of 0, of 1, of MaxSpan; the rest comes to just 10^9, to one less, and below 0; a rate is set while one is there.
func TestGoByHand(t *testing.T) {
	for _, way := range [][]turning{
		{{0, []int64{0, 1, 0, 1000, longest, longest - 1}, []int64{0, 1, 0, 1000, longest, longest - 1}}},
		{{1, []int64{0, 1, 999_999_998, 1}, []int64{0, 1, 999_999_998, 2}}}, // one less than 10^9, then just that
		{{1, []int64{999_999_999, 0, 1, 1}, []int64{999_999_999, 0, 2, 1}}}, // nothing goes of a delta of 0
		{{1, []int64{1_000_000_000, 999_999_999}, []int64{1_000_000_001, 999_999_999}}},
		{{-1, []int64{0, 1, 1, 999_999_997, 1}, []int64{0, 0, 1, 999_999_997, 1}}}, // below 0 at once: the next one nanosecond is lost
		{{-1, []int64{1_000_000_000, 1}, []int64{999_999_999, 0}}},                 // a rest of 0, then below it
		{{500_000, []int64{1, 1998, 1, 1999, 1}, []int64{1, 1998, 2, 1999, 2}}},
		{{500_000, []int64{2000, 1999, 1}, []int64{2001, 1999, 2}}},
		{{-500_000, []int64{1, 1, 1998, 1}, []int64{0, 1, 1998, 0}}},
		{{-500_000, []int64{2000, 2000, 1999, 1}, []int64{1999, 1999, 1998, 1}}},
		{{500_000, []int64{longest, longest}, []int64{1_126_462_856_796_045, 1_126_462_856_796_045}}},
		{{-500_000, []int64{longest, longest}, []int64{1_125_336_956_889_202, 1_125_336_956_889_203}}},
		{{1, []int64{longest}, []int64{1_125_899_907_968_523}}},
		{{-1, []int64{longest}, []int64{1_125_899_905_716_724}}},
		{{333_333, []int64{longest}, []int64{1_126_275_206_436_271}}},
		{{1, []int64{999_999_999}, []int64{999_999_999}}, {-1, []int64{999_999_999, 1}, []int64{999_999_999, 0}}},
		{{1, []int64{999_999_999}, []int64{999_999_999}}, {0, []int64{1, longest, 1}, []int64{1, longest, 1}}, {1, []int64{1}, []int64{2}}},
		{{500_000, []int64{1999}, []int64{1999}}, {499_999, []int64{1, 1}, []int64{1, 2}}}, // one less than 10^9
		{{500_000, []int64{1999}, []int64{1999}}, {500_000, []int64{1}, []int64{2}}},
		{{500_000, []int64{1}, []int64{1}}, {-500_000, []int64{1, 1}, []int64{1, 0}}},
		{{500_000, []int64{1}, []int64{1}}, {-499_999, []int64{1, 1}, []int64{1, 0}}},
		{{-1, []int64{1}, []int64{0}}, {1, []int64{1, 1}, []int64{2, 1}}},
		{{-1, []int64{1}, []int64{0}}, {0, []int64{5}, []int64{5}}, {500_000, []int64{1}, []int64{2}}},
		{{-500_000, []int64{1}, []int64{0}}, {500_000, []int64{1, 1999, 1}, []int64{2, 1999, 2}}},
	} {
		c, at, raw := mono.New(), int64(0), int64(0)
		for _, part := range way {
			checkRate(t, c, part.rate, api.OK)
			for i, d := range part.deltas {
				at, raw = at+part.grown[i], raw+d
				checkGo(t, c, d, part.grown[i], api.OK, at, raw, false)
			}
		}
	}
}

// P11.2: by hand: of a delta below 0 or above MaxSpan nothing goes, and the rest stays.
func TestGoWrongByHand(t *testing.T) {
	c := mono.New()
	checkRate(t, c, 500_000, api.OK)
	checkGo(t, c, 1999, 1999, api.OK, 1999, 1999, false)
	for _, d := range []int64{-1, -2, longest + 1, longest + 2, 2 * longest, -longest, most, math.MaxInt64, math.MinInt64, math.MinInt64 + 1} {
		checkGo(t, c, d, 0, api.ErrArg, 1999, 1999, false)
	}
	checkGo(t, c, 1, 2, api.OK, 2001, 2000, false)
	checkGo(t, c, longest, 1_126_462_856_796_045, api.OK, 1_126_462_856_798_046, longest+2000, false)
}

// P11.2, P11.3: of all rates, deltas of every kind at the beginning, and behind such of every kind at other rates; wrong ones between them.
func TestGo(t *testing.T) {
	chance := rand.New(rand.NewPCG(112, 1))
	wrong := noDeltas(chance)
	for _, rate := range someRates(chance) {
		list := someDeltas(chance)
		for _, d := range list {
			c, m := made(t, rate)
			step(t, c, m, d)
			for range 4 {
				turn(t, c, m, chance.Int64N(2*fastest+1)-fastest)
				step(t, c, m, list[chance.IntN(len(list))])
				step(t, c, m, wrong[chance.IntN(len(wrong))])
			}
			turn(t, c, m, rate)
			step(t, c, m, d)
		}
	}
}

// P11.2: wrong deltas one by one, of a clock with a rest, and of a full one: that is told ahead.
func TestGoWrong(t *testing.T) {
	chance := rand.New(rand.NewPCG(112, 2))
	c, m := made(t, 333_333)
	step(t, c, m, 12_345)
	filled := clockAt(t, most, most)
	checkGo(t, filled, 1, 0, api.ErrFull, most, most, true)
	for _, d := range noDeltas(chance) {
		checkGo(t, c, d, 0, api.ErrArg, m.mono(), 12_345, false)
		checkGo(t, filled, d, 0, api.ErrArg, most, most, true)
	}
	step(t, c, m, 1)
}

// P11.2, P11.3: the rest of every kind, with a delta of one behind it, at rates by which it comes to just 10^9, to one less, to 0, and below.
func TestGoRest(t *testing.T) {
	chance := rand.New(rand.NewPCG(112, 3))
	seen := map[int64]int{}
	for _, rate := range someRates(chance) {
		for range 20 {
			c, m := made(t, rate)
			step(t, c, m, chance.Int64N(billion)>>chance.IntN(30))
			rest := m.rest()
			for _, near := range []int64{billion - rest, billion - rest - 1, -rest, -rest - 1, -rest + 1} {
				if near < -fastest || near > fastest {
					continue
				}
				other, mine := c.Copy(), m.copied()
				turn(t, other, mine, near)
				step(t, other, mine, 1)
				seen[mine.rest()]++
				step(t, other, mine, 1)
			}
		}
	}
	if seen[0] < 20 || seen[billion-1] < 20 || seen[1] < 5 {
		t.Errorf("a rest of 0 %d times, of 10^9 - 1 %d times, of 1 %d times", seen[0], seen[billion-1], seen[1])
	}
}

// clockAt is a clock of rate 0 of which Mono and the raw time come to that, without a rest. They may be apart by no more than a 2000th.
func clockAt(t *testing.T, at, raw int64) *mono.Clock {
	t.Helper()
	c, rate, apart := mono.New(), int64(fastest), at-raw
	if apart < 0 {
		rate, apart = -rate, -apart
	}
	checkRate(t, c, rate, api.OK)
	run(t, c, apart*2000) // just a whole nanosecond of each 2000
	checkRate(t, c, 0, api.OK)
	run(t, c, raw-c.Raw())
	checkHolds(t, c, at, raw, 0, false)
	return c
}

// run lets a clock go so far, in as few parts as may be.
func run(t *testing.T, c *mono.Clock, far int64) {
	t.Helper()
	for far > 0 {
		d := min(far, longest)
		if _, e := c.Go(d); e != api.OK {
			t.Fatalf("Go(%d): %d", d, e)
		}
		far -= d
	}
}

// modelAt is what such a clock has to hold.
func modelAt(at, raw int64) *model {
	m := modelOf()
	m.raw.SetInt64(raw)
	m.fine.Mul(number(at), number(billion))
	return m
}

// P11.2: by hand: Mono, the raw time, and both come to one below MaxTime, to it, and would be above it, by one and by far.
func TestGoFullByHand(t *testing.T) {
	for _, way := range []struct {
		mono, raw     int64 // at first
		rate, d       int64
		grown         int64
		e             api.Errno
		atMono, atRaw int64
	}{
		// Mono first.
		{most - 10, most - 20, 0, 9, 9, api.OK, most - 1, most - 11},
		{most - 10, most - 20, 0, 10, 10, api.OK, most, most - 10},
		{most - 10, most - 20, 0, 11, 0, api.ErrFull, most, most - 9},
		{most - 10, most - 20, 0, 19, 0, api.ErrFull, most, most - 1},
		{most - 10, most - 20, 0, 20, 0, api.ErrFull, most, most},
		{most - 10, most - 20, 0, 21, 0, api.ErrFull, most, most},
		{most - 10, most - 20, 0, longest, 0, api.ErrFull, most, most},
		{most - 2001, most - 2500, fastest, 1999, 1999, api.OK, most - 2, most - 501},
		{most - 2001, most - 2500, fastest, 2000, 2001, api.OK, most, most - 500},
		{most - 2000, most - 2500, fastest, 1999, 1999, api.OK, most - 1, most - 501},
		{most - 2000, most - 2500, fastest, 2000, 0, api.ErrFull, most, most - 500},
		{most - 1, most - 1_000_000, 0, 1, 1, api.OK, most, most - 999_999},
		{most - 1, most - 1_000_000, 0, 2, 0, api.ErrFull, most, most - 999_998},
		{most, most - 1_000_000, 0, 0, 0, api.OK, most, most - 1_000_000},
		{most, most - 1_000_000, 0, 1, 0, api.ErrFull, most, most - 999_999},
		// One raw nanosecond at a rate below 0, of no rest: Mono stays.
		{most, most - 5, -1, 1, 0, api.OK, most, most - 4},
		{most, most - 5, -1, 2, 0, api.ErrFull, most, most - 3},
		// The raw time first.
		{most - 20, most - 10, 0, 9, 9, api.OK, most - 11, most - 1},
		{most - 20, most - 10, 0, 10, 10, api.OK, most - 10, most},
		{most - 20, most - 10, 0, 11, 0, api.ErrFull, most - 9, most},
		{most - 20, most - 10, 0, 19, 0, api.ErrFull, most - 1, most},
		{most - 20, most - 10, 0, 20, 0, api.ErrFull, most, most},
		{most - 20, most - 10, 0, 21, 0, api.ErrFull, most, most},
		{most - 20, most - 10, 0, longest, 0, api.ErrFull, most, most},
		{most - 2500, most - 2000, -fastest, 2000, 1999, api.OK, most - 501, most},
		{most - 2500, most - 2000, -fastest, 2001, 0, api.ErrFull, most - 501, most},
		{most - 2500, most - 2000, -fastest, 2002, 0, api.ErrFull, most - 500, most},
		{most - 5, most, 0, 0, 0, api.OK, most - 5, most},
		{most - 5, most, 0, 1, 0, api.ErrFull, most - 4, most},
		{most - 5, most, 1, 0, 0, api.OK, most - 5, most},
		// Both.
		{most - 1, most - 1, 0, 0, 0, api.OK, most - 1, most - 1},
		{most - 1, most - 1, 0, 1, 1, api.OK, most, most},
		{most - 1, most - 1, 0, 2, 0, api.ErrFull, most, most},
		{most, most, 0, 0, 0, api.OK, most, most},
		{most, most, 0, 1, 0, api.ErrFull, most, most},
		{most, most, fastest, 0, 0, api.OK, most, most},
		{most, most, -fastest, 1, 0, api.ErrFull, most, most},
		{most - longest, most - longest, 0, longest, longest, api.OK, most, most},
		{most - longest + 1, most - longest + 1, 0, longest, 0, api.ErrFull, most, most},
		{most - longest, most - longest, 1, longest, 0, api.ErrFull, most, most},
		{most - longest, most - longest, -1, longest, longest - 1_125_900, api.OK, most - 1_125_900, most},
	} {
		c := clockAt(t, way.mono, way.raw)
		checkRate(t, c, way.rate, api.OK)
		checkGo(t, c, way.d, way.grown, way.e, way.atMono, way.atRaw, way.e != api.OK)
	}
}

// P11.1 to P11.4: a full clock at each call: it stands for good, its rate can be set, and a wrong argument is told ahead.
func TestFull(t *testing.T) {
	for _, way := range []struct{ mono, raw, d, atMono, atRaw int64 }{
		{most - 10, most - 20, 12, most, most - 8},
		{most - 20, most - 10, 12, most - 8, most},
		{most - 20, most - 10, 20, most, most},
		{most, most, longest, most, most},
	} {
		c := clockAt(t, way.mono, way.raw)
		checkGo(t, c, way.d, 0, api.ErrFull, way.atMono, way.atRaw, true)
		for _, rate := range []int64{0, 1, -1, fastest, -fastest} {
			checkRate(t, c, rate, api.OK)
			checkRate(t, c, fastest+1, api.ErrArg)
			checkRate(t, c, math.MinInt64, api.ErrArg)
			for _, d := range []int64{0, 1, 2, 8, 2000, billion, longest} {
				checkGo(t, c, d, 0, api.ErrFull, way.atMono, way.atRaw, true)
			}
			for _, d := range []int64{-1, longest + 1, math.MaxInt64, math.MinInt64} {
				checkGo(t, c, d, 0, api.ErrArg, way.atMono, way.atRaw, true)
			}
			for _, when := range []int64{math.MinInt64, -1, 0, 1, way.atMono - 1, way.atMono, way.atMono + 1, most, most + 1, math.MaxInt64} {
				checkUntil(t, c, when, 0, false)
			}
			checkHolds(t, c.Copy(), way.atMono, way.atRaw, rate, true)
		}
	}
}

// P11.2: from the beginning to the end and beyond, at all rates, in parts of every size; which is full first hangs on the rate.
func TestGoToFull(t *testing.T) {
	chance := rand.New(rand.NewPCG(112, 4))
	mine, raws := 0, 0
	for _, rate := range someRates(chance) {
		c, m := made(t, rate)
		for !m.full {
			d := longest - chance.Int64N(longest)>>chance.IntN(50)
			step(t, c, m, d)
		}
		if m.raw.Cmp(number(most)) <= 0 {
			mine++
		}
		if m.mono() < most {
			raws++
		}
		for range 10 {
			step(t, c, m, chance.Int64N(longest)>>chance.IntN(50))
			turn(t, c, m, chance.Int64N(2*fastest+1)-fastest)
		}
	}
	if mine < 5 || raws < 5 {
		t.Errorf("Mono alone was full %d times, the raw time alone %d", mine, raws)
	}
}

// fills is the least delta that fills a clock, of a model that is just below the end.
func (m *model) fills() int64 {
	far := new(big.Int).Mul(number(most+1), number(billion))
	far.Sub(far, m.fine).Add(far, m.pace()).Sub(far, number(1)).Quo(far, m.pace())
	left := new(big.Int).Sub(number(most+1), m.raw)
	return min(far.Int64(), left.Int64())
}

// P11.2: just below the end, at all rates, with a rest, by the least delta that fills the clock, and by the one ahead.
func TestGoAlmostFull(t *testing.T) {
	chance := rand.New(rand.NewPCG(112, 5))
	for _, rate := range someRates(chance) {
		for range 20 {
			at, raw := most-3000-chance.Int64N(1000), most-3000-chance.Int64N(1000)
			c, m := clockAt(t, at, raw), modelAt(at, raw)
			turn(t, c, m, chance.Int64N(2*fastest+1)-fastest)
			step(t, c, m, chance.Int64N(1000))
			turn(t, c, m, rate)
			d := m.fills()
			if e := step(t, c.Copy(), m.copied(), d); e != api.ErrFull {
				t.Fatalf("of %d: %d", d, e)
			}
			if e := step(t, c, m, d-1); e != api.OK {
				t.Fatalf("of %d: %d", d-1, e)
			}
			if e := step(t, c, m, 0); e != api.OK {
				t.Fatalf("of 0: %d", e)
			}
			for range 4 {
				step(t, c, m, chance.Int64N(3))
			}
		}
	}
}
