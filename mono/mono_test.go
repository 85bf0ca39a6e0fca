package mono_test

import (
	"math"
	"math/big"
	"math/rand/v2"
	"slices"
	"testing"

	"ephemeris/api"
	"ephemeris/mono"
)

const (
	most    = 4_611_686_018_427_387_904 // MaxTime
	longest = 1_125_899_906_842_624     // MaxSpan
	fastest = 500_000                   // MaxSlew
	billion = 1_000_000_000
)

// model is what a clock has to hold, in exact numbers: fine is Mono by 10^9, and the rest.
type model struct {
	raw, fine *big.Int
	rate      int64
	full      bool
}

func number(n int64) *big.Int { return big.NewInt(n) }

// modelOf is what a new clock has to hold.
func modelOf() *model { return &model{raw: new(big.Int), fine: new(big.Int)} }

// copied is a model of its own that holds the same.
func (m *model) copied() *model {
	return &model{raw: new(big.Int).Set(m.raw), fine: new(big.Int).Set(m.fine), rate: m.rate, full: m.full}
}

// capped is a number, or MaxTime, if that is less.
func capped(n *big.Int) int64 {
	if n.Cmp(number(most)) > 0 {
		return most
	}
	return n.Int64()
}

// mono is what Mono has to tell.
func (m *model) mono() int64 { return capped(new(big.Int).Div(m.fine, number(billion))) }

// rest is what is no whole nanosecond of Mono, by 10^9.
func (m *model) rest() int64 { return new(big.Int).Mod(m.fine, number(billion)).Int64() }

// pace is by how much fine goes on, of a raw nanosecond.
func (m *model) pace() *big.Int { return number(billion + m.rate) }

// run is what Go has to answer, and what the clock holds then.
func (m *model) run(d int64) (int64, api.Errno) {
	if d < 0 || d > longest {
		return 0, api.ErrArg
	}
	if m.full {
		return 0, api.ErrFull
	}
	before := m.mono()
	m.raw.Add(m.raw, number(d))
	m.fine.Add(m.fine, new(big.Int).Mul(number(d), m.pace()))
	if m.raw.Cmp(number(most)) > 0 || new(big.Int).Div(m.fine, number(billion)).Cmp(number(most)) > 0 {
		m.full = true
		return 0, api.ErrFull
	}
	return m.mono() - before, api.OK
}

// setRate is what SetRate has to answer, and what the clock holds then.
func (m *model) setRate(rate int64) api.Errno {
	if rate < -fastest || rate > fastest {
		return api.ErrArg
	}
	m.rate = rate
	return api.OK
}

// until is what Until has to answer: by a quotient, up.
func (m *model) until(at int64) (int64, bool) {
	if m.full || at > most {
		return 0, false
	}
	far := new(big.Int).Mul(number(at), number(billion))
	far.Sub(far, m.fine)
	if far.Sign() <= 0 {
		return 0, true
	}
	far.Add(far, m.pace()).Sub(far, number(1)).Quo(far, m.pace())
	if far.Cmp(number(longest)) > 0 {
		return 0, false
	}
	return far.Int64(), true
}

// checkHolds holds what the clock tells against what it has to hold.
func checkHolds(t *testing.T, c *mono.Clock, at, raw, rate int64, full bool) {
	t.Helper()
	if c.Mono() != at || c.Raw() != raw || c.Rate() != rate || c.Full() != full {
		t.Fatalf("Mono %d, Raw %d, Rate %d, Full %t; want %d, %d, %d, %t", c.Mono(), c.Raw(), c.Rate(), c.Full(), at, raw, rate, full)
	}
}

// checkModel holds the clock against its model.
func checkModel(t *testing.T, c *mono.Clock, m *model) {
	t.Helper()
	checkHolds(t, c, m.mono(), capped(m.raw), m.rate, m.full)
}

// checkGo holds one Go, and what the clock tells behind it.
func checkGo(t *testing.T, c *mono.Clock, d, grown int64, e api.Errno, at, raw int64, full bool) {
	t.Helper()
	rate := c.Rate()
	if got, gotten := c.Go(d); got != grown || gotten != e {
		t.Fatalf("Go(%d) = %d, %d; want %d, %d", d, got, gotten, grown, e)
	}
	checkHolds(t, c, at, raw, rate, full)
}

// checkRate holds one SetRate, and what the clock tells behind it.
func checkRate(t *testing.T, c *mono.Clock, rate int64, e api.Errno) {
	t.Helper()
	at, raw, full := c.Mono(), c.Raw(), c.Full()
	want := rate
	if e != api.OK {
		want = c.Rate()
	}
	if got := c.SetRate(rate); got != e {
		t.Fatalf("SetRate(%d) = %d; want %d", rate, got, e)
	}
	checkHolds(t, c, at, raw, want, full)
}

// checkUntil holds one Until, which changes nothing.
func checkUntil(t *testing.T, c *mono.Clock, at, d int64, ok bool) {
	t.Helper()
	now, raw, rate, full := c.Mono(), c.Raw(), c.Rate(), c.Full()
	if got, gotten := c.Until(at); got != d || gotten != ok {
		t.Fatalf("at Mono %d, Raw %d, Rate %d: Until(%d) = %d, %t; want %d, %t", now, raw, rate, at, got, gotten, d, ok)
	}
	checkHolds(t, c, now, raw, rate, full)
}

// step lets the clock and its model go on, holds one against the other, and is the error.
func step(t *testing.T, c *mono.Clock, m *model, d int64) api.Errno {
	t.Helper()
	before := m.copied()
	want, e := m.run(d)
	if got, gotten := c.Go(d); got != want || gotten != e {
		t.Fatalf("at Mono %d, rest %d, Raw %d, Rate %d, Full %t: Go(%d) = %d, %d; want %d, %d",
			before.mono(), before.rest(), before.raw, before.rate, before.full, d, got, gotten, want, e)
	}
	checkModel(t, c, m)
	return e
}

// turn sets the clock's and its model's rate, and holds one against the other.
func turn(t *testing.T, c *mono.Clock, m *model, rate int64) {
	t.Helper()
	want := m.setRate(rate)
	if got := c.SetRate(rate); got != want {
		t.Fatalf("SetRate(%d) = %d; want %d", rate, got, want)
	}
	checkModel(t, c, m)
}

// ask holds what the clock tells of Until against its model.
func ask(t *testing.T, c *mono.Clock, m *model, at int64) {
	t.Helper()
	d, ok := m.until(at)
	checkUntil(t, c, at, d, ok)
	checkModel(t, c, m)
}

// made is a new clock of that rate, and its model.
func made(t *testing.T, rate int64) (*mono.Clock, *model) {
	t.Helper()
	c, m := mono.New(), modelOf()
	if c == nil {
		t.Fatal("New() is nil")
	}
	turn(t, c, m, rate)
	return c, m
}

// someRates are rates of every kind: ends, single bits, such as 10^9 can be divided by and such as it can't, and some of chance.
func someRates(chance *rand.Rand) []int64 {
	list := []int64{0, 3, -3, 7, -7, 10, -10, 999, -999, 1000, -1000, 33_333, -33_333, 65_536, -65_536, 250_000, -250_000}
	for near := range int64(3) {
		list = append(list, fastest-near, near-fastest, near, -near)
	}
	for range 20 {
		list = append(list, chance.Int64N(2*fastest+1)-fastest, chance.Int64N(fastest)>>chance.IntN(18), -(chance.Int64N(fastest) >> chance.IntN(18)))
	}
	return list
}

// noRates are numbers that are no rates, also such as are some in a narrower number.
func noRates(chance *rand.Rand) []int64 {
	list := []int64{
		fastest + 1, -fastest - 1, fastest + 2, -fastest - 2, 2 * fastest, -2 * fastest, billion, -billion,
		math.MaxInt32, math.MinInt32, math.MaxInt64, math.MaxInt64 - 1, math.MinInt64, math.MinInt64 + 1, most, -most,
	}
	for bit := 19; bit < 63; bit++ {
		list = append(list, 1<<bit, -1<<bit, 1<<bit+7, -1<<bit-7)
	}
	for range 50 {
		list = append(list, fastest+1+chance.Int64N(fastest), -fastest-1-chance.Int64N(fastest), chance.Int64()|1<<40, -(chance.Int64() | 1<<40))
	}
	return slices.DeleteFunc(list, func(rate int64) bool { return rate >= -fastest && rate <= fastest })
}

// someDeltas are raw deltas of every kind: ends, single bits, whole seconds, and some of chance.
func someDeltas(chance *rand.Rand) []int64 {
	list := []int64{0, 1, 2, 3, 999, 1000, 1001, 1999, 2000, 2001, billion - 1, billion, billion + 1, 2 * billion, longest - 1, longest, longest / 2, longest/2 + 1}
	for bit := range 51 {
		list = append(list, 1<<bit, 1<<bit-1)
	}
	for range 20 {
		list = append(list, chance.Int64N(longest+1), chance.Int64N(longest+1)>>chance.IntN(50))
	}
	return list
}

// noDeltas are numbers that are no raw deltas, also such as are some in a narrower number.
func noDeltas(chance *rand.Rand) []int64 {
	list := []int64{longest + 1, longest + 2, 2 * longest, -1, -2, -billion, -longest, -longest - 1, most, most + 1, math.MaxInt64, math.MaxInt64 - 1, math.MinInt64, math.MinInt64 + 1, math.MinInt64 + longest}
	for bit := range 63 {
		list = append(list, -1<<bit, 1<<bit+longest)
	}
	for range 50 {
		list = append(list, longest+1+chance.Int64N(longest), -1-chance.Int64N(longest), chance.Int64()|1<<51, -(chance.Int64() | 1))
	}
	return slices.DeleteFunc(list, func(d int64) bool { return d >= 0 && d <= longest })
}

// P11.1 to P11.3: the chapter's examples.
func TestExamples(t *testing.T) {
	c := mono.New()
	checkRate(t, c, 500_000, api.OK)
	checkGo(t, c, 1000, 1000, api.OK, 1000, 1000, false)
	checkGo(t, c, 1000, 1001, api.OK, 2001, 2000, false)
	c = mono.New()
	checkRate(t, c, -500_000, api.OK)
	checkGo(t, c, 2000, 1999, api.OK, 1999, 2000, false)
	checkRate(t, c, 500_001, api.ErrArg)
}

// P11.1: a new clock is at 0, of rate 0, not full, with no rest, and each is one of its own.
func TestNew(t *testing.T) {
	if api.MaxTime != most || api.MaxSpan != longest || api.MaxSlew != fastest {
		t.Fatalf("MaxTime %d, MaxSpan %d, MaxSlew %d", int64(api.MaxTime), int64(api.MaxSpan), int64(api.MaxSlew))
	}
	c, other := mono.New(), mono.New()
	if c == nil || c == other {
		t.Fatalf("New() = %p, %p", c, other)
	}
	checkHolds(t, c, 0, 0, 0, false)
	checkRate(t, c, 1, api.OK)
	checkGo(t, c, 999_999_999, 999_999_999, api.OK, 999_999_999, 999_999_999, false)
	checkHolds(t, other, 0, 0, 0, false)
	checkRate(t, other, -1, api.OK)
	checkGo(t, other, 1, 0, api.OK, 0, 1, false)
	checkGo(t, c, 1, 2, api.OK, 1_000_000_001, 1_000_000_000, false)
	checkHolds(t, mono.New(), 0, 0, 0, false)
}

// P11.3: rates by hand: the ends, one beyond each, and what may be in a narrower number.
func TestSetRateByHand(t *testing.T) {
	c := mono.New()
	for _, way := range []struct {
		rate int64
		e    api.Errno
	}{
		{0, api.OK}, {1, api.OK}, {-1, api.OK}, {500_000, api.OK}, {500_001, api.ErrArg}, {-500_000, api.OK}, {-500_001, api.ErrArg},
		{499_999, api.OK}, {-499_999, api.OK}, {1_000_000_000, api.ErrArg}, {-1_000_000_000, api.ErrArg}, {4_294_967_296, api.ErrArg},
		{math.MaxInt64, api.ErrArg}, {math.MinInt64, api.ErrArg}, {math.MinInt64 + 1, api.ErrArg}, {123, api.OK}, {0, api.OK},
	} {
		checkRate(t, c, way.rate, way.e)
	}
}

// P11.3: of all rates that may be and all others, on a clock that has gone: a rate that is refused changes nothing, the rest neither.
func TestSetRate(t *testing.T) {
	chance := rand.New(rand.NewPCG(113, 1))
	for _, rate := range someRates(chance) {
		c, m := made(t, rate)
		step(t, c, m, chance.Int64N(longest))
		for _, wrong := range noRates(chance) {
			checkRate(t, c, wrong, api.ErrArg)
		}
		step(t, c, m, 1)
		step(t, c, m, chance.Int64N(10_000))
		for _, next := range someRates(chance) {
			turn(t, c, m, next)
			step(t, c, m, chance.Int64N(3000))
		}
	}
}

// P11.1 to P11.4: none, and a clock that New did not make: each call, each argument that may be or not, and each call again behind the others.
func TestNotMade(t *testing.T) {
	var none *mono.Clock
	var holder struct{ at mono.Clock }
	for _, c := range []*mono.Clock{none, new(mono.Clock), {}, &holder.at} {
		for range 3 {
			checkHolds(t, c, 0, 0, 0, false)
			for _, n := range []int64{0, 1, -1, 1000, fastest, -fastest, fastest + 1, longest, longest + 1, most, most + 1, math.MaxInt64, math.MinInt64} {
				checkGo(t, c, n, 0, api.ErrNil, 0, 0, false)
				checkRate(t, c, n, api.ErrNil)
				checkUntil(t, c, n, 0, false)
			}
			if other := c.Copy(); other != nil {
				t.Errorf("a copy of none: %v", other)
			}
		}
	}
}

// checkApart lets one of two clocks that hold the same go on and change its rate, and holds that the other one stays; then that one.
func checkApart(t *testing.T, chance *rand.Rand, one, other *mono.Clock, m *model) {
	t.Helper()
	if one == other {
		t.Fatal("a copy is the very one")
	}
	kept := m.copied()
	for range 5 {
		turn(t, one, m, chance.Int64N(2*fastest+1)-fastest)
		step(t, one, m, chance.Int64N(longest)>>chance.IntN(50))
		checkModel(t, other, kept)
		ask(t, other, kept, kept.mono()+chance.Int64N(10_000))
	}
	for range 5 {
		step(t, other, kept, chance.Int64N(longest)>>chance.IntN(50))
		turn(t, other, kept, chance.Int64N(2*fastest+1)-fastest)
		checkModel(t, one, m)
	}
}

// P11.1: a copy and what it was made of hold the same, the rest too, and live apart, whichever goes on or gets another rate.
func TestCopy(t *testing.T) {
	chance := rand.New(rand.NewPCG(111, 1))
	for _, rate := range someRates(chance) {
		for range 4 {
			c, m := made(t, rate)
			for range chance.IntN(4) {
				step(t, c, m, chance.Int64N(longest)>>chance.IntN(50))
			}
			other := c.Copy()
			checkModel(t, other, m)
			checkModel(t, c, m)
			checkApart(t, chance, c, other, m.copied())
			again, mine := made(t, rate)
			step(t, again, mine, 777)
			checkApart(t, chance, again.Copy(), again, mine)
		}
	}
}

// P11.1: what is over goes to the copy: a raw nanosecond more makes two there, and there alone.
func TestCopyOfRest(t *testing.T) {
	c := mono.New()
	checkRate(t, c, 500_000, api.OK)
	checkGo(t, c, 1999, 1999, api.OK, 1999, 1999, false)
	other := c.Copy()
	checkHolds(t, other, 1999, 1999, 500_000, false)
	checkGo(t, other, 1, 2, api.OK, 2001, 2000, false)
	checkHolds(t, c, 1999, 1999, 500_000, false)
	checkRate(t, c, 0, api.OK)
	checkHolds(t, other, 2001, 2000, 500_000, false)
	checkGo(t, c, 1, 1, api.OK, 2000, 2000, false)
	checkRate(t, c, 500_000, api.OK)
	checkGo(t, c, 1, 2, api.OK, 2002, 2001, false)
	checkGo(t, other, 1, 1, api.OK, 2002, 2001, false)
}

// P11.1: copies of copies, of a clock that goes on between them, each as it was then.
func TestCopies(t *testing.T) {
	c, m := made(t, 123_456)
	var copies []*mono.Clock
	var models []*model
	for n := range int64(100) {
		copies, models = append(copies, c.Copy().Copy()), append(models, m.copied())
		step(t, c, m, n*n*7919)
		turn(t, c, m, n*4001-200_000)
	}
	for i := range copies {
		checkModel(t, copies[i], models[i])
		step(t, copies[i], models[i], 5_000_000)
	}
	checkModel(t, c, m)
}

// P11.1, P11.2: a copy of a full clock is full and stays so; one that was made ahead is not, and goes on.
func TestCopyOfFull(t *testing.T) {
	c := clockAt(t, most-10, most-20)
	ahead := c.Copy()
	checkGo(t, c, 15, 0, api.ErrFull, most, most-5, true)
	behind := c.Copy()
	checkHolds(t, behind, most, most-5, 0, true)
	checkHolds(t, ahead, most-10, most-20, 0, false)
	checkGo(t, ahead, 10, 10, api.OK, most, most-10, false)
	checkGo(t, behind, 1, 0, api.ErrFull, most, most-5, true)
	checkRate(t, behind, 5, api.OK)
	checkHolds(t, c, most, most-5, 0, true)
	checkGo(t, ahead, 1, 0, api.ErrFull, most, most-9, true)
	checkHolds(t, c, most, most-5, 0, true)
}
