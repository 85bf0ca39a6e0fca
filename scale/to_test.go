package scale_test

import (
	"math"
	"math/big"
	"math/rand/v2"
	"testing"

	"ephemeris/scale"
)

// going is ticks that go of one scale, what To tells of each, and the total behind them.
type going struct {
	hertz uint64
	ticks []uint64
	grown []int64
	total int64
}

// P10.2: by hand: no ticks, one, many, the greatest number there is; what is over comes to just a nanosecond, and to one tick less.
func TestToByHand(t *testing.T) {
	for _, c := range []going{
		{1, []uint64{0, 1, 0, 2, 0}, []int64{0, 1_000_000_000, 0, 2_000_000_000, 0}, 3_000_000_000},
		{1, []uint64{4_611_686_018}, []int64{4_611_686_018_000_000_000}, 4_611_686_018_000_000_000},
		{2, []uint64{1, 1, 3}, []int64{500_000_000, 500_000_000, 1_500_000_000}, 2_500_000_000},
		{3, []uint64{2, 1, 4}, []int64{666_666_666, 333_333_334, 1_333_333_333}, 2_333_333_333},
		{3, []uint64{3, 3}, []int64{1_000_000_000, 1_000_000_000}, 2_000_000_000},
		{7, []uint64{1, 1, 1, 1, 1, 1, 1}, []int64{142_857_142, 142_857_143, 142_857_143, 142_857_143, 142_857_143, 142_857_143, 142_857_143}, 1_000_000_000},
		{32_768, []uint64{1, 32_767, 32_768}, []int64{30_517, 999_969_483, 1_000_000_000}, 2_000_000_000},
		{999_999_999, []uint64{1, 999_999_997, 1, 1}, []int64{1, 999_999_997, 2, 1}, 1_000_000_001},
		{1_000_000_000, []uint64{0, 1, 999_999_999, 123}, []int64{0, 1, 999_999_999, 123}, 1_000_000_123},
		{1_000_000_001, []uint64{1, 1, 999_999_999, 1}, []int64{0, 1, 999_999_999, 0}, 1_000_000_000},
		{1_500_000_000, []uint64{1, 1, 1, 1}, []int64{0, 1, 1, 0}, 2},
		{2_000_000_000, []uint64{1, 1, 1, 1, 3, 1}, []int64{0, 1, 0, 1, 1, 1}, 4},
		{4_000_000_000, []uint64{3, 1, 3, 2, 2, 1}, []int64{0, 1, 0, 1, 0, 1}, 3},
		{4_000_000_000, []uint64{math.MaxUint64}, []int64{most - 1}, most - 1},
		{1_000_000_000_000, []uint64{0, 1, 998, 1, 999, 1}, []int64{0, 0, 0, 1, 0, 1}, 2},
		{1_000_000_000_000, []uint64{999, 1000, 1, 1001, 999}, []int64{0, 1, 1, 1, 1}, 4},
		{1_000_000_000_000, []uint64{math.MaxUint64, 384, 1}, []int64{18_446_744_073_709_551, 0, 1}, 18_446_744_073_709_552},
		{1_000_000_000_000, []uint64{1, math.MaxUint64}, []int64{0, 18_446_744_073_709_551}, 18_446_744_073_709_551},
		{1_000_000_000_000, []uint64{385, math.MaxUint64}, []int64{0, 18_446_744_073_709_552}, 18_446_744_073_709_552},
		{999_999_999_999, []uint64{999, 1, 999_999_998_999}, []int64{0, 1, 999_999_999}, 1_000_000_000},
	} {
		s := made(t, c.hertz)
		total := int64(0)
		for i, ticks := range c.ticks {
			total += c.grown[i]
			checkTo(t, s, ticks, c.grown[i], total, false)
		}
		if total != c.total || s.Total() != c.total {
			t.Errorf("hertz %d: %d, %d; want %d", c.hertz, s.Total(), total, c.total)
		}
	}
}

// P10.2: by hand: a total one below MaxTime, at it, and that would be above it by one and by far; none of them goes on then.
func TestToFullByHand(t *testing.T) {
	for _, c := range []going{
		{1, []uint64{4_611_686_018, 1}, []int64{4_611_686_018_000_000_000, 427_387_904}, most},
		{1, []uint64{4_611_686_019}, []int64{most}, most},
		{1, []uint64{1, math.MaxUint64}, []int64{1_000_000_000, most - 1_000_000_000}, most},
		{1, []uint64{math.MaxUint64}, []int64{most}, most},
		{1_000_000_000, []uint64{most - 1, 0, 1}, []int64{most - 1, 0, 1}, most},
		{1_000_000_000, []uint64{most - 1, 2}, []int64{most - 1, 1}, most},
		{1_000_000_000, []uint64{most - 1, math.MaxUint64}, []int64{most - 1, 1}, most},
		{1_000_000_000, []uint64{most}, []int64{most}, most},
		{1_000_000_000, []uint64{most + 1}, []int64{most}, most},
		{1_000_000_000, []uint64{1 << 63}, []int64{most}, most},
		{1_000_000_000, []uint64{math.MaxUint64}, []int64{most}, most},
		{1_000_000_000, []uint64{5, math.MaxUint64 - 4}, []int64{5, most - 5}, most},
		{999_999_999, []uint64{math.MaxUint64}, []int64{most}, most}, // the quotient has just one bit too many
		{999_999_998, []uint64{math.MaxUint64}, []int64{most}, most},
		{1_000_000_001, []uint64{math.MaxUint64}, []int64{most}, most},
		{2_000_000_000, []uint64{2*most - 1, 1}, []int64{most - 1, 1}, most},
		{2_000_000_000, []uint64{2 * most}, []int64{most}, most},
		{2_000_000_000, []uint64{math.MaxUint64}, []int64{most}, most},
		{4_000_000_000, []uint64{math.MaxUint64, 1}, []int64{most - 1, 1}, most},
		{4_000_000_000, []uint64{1, math.MaxUint64}, []int64{0, most}, most},
		{4_000_000_000, []uint64{math.MaxUint64, math.MaxUint64}, []int64{most - 1, 1}, most},
		{3, []uint64{13_835_058_055, 1}, []int64{4_611_686_018_333_333_333, 94_054_571}, most},
	} {
		s := made(t, c.hertz)
		total := int64(0)
		for i, ticks := range c.ticks {
			total += c.grown[i]
			checkTo(t, s, ticks, c.grown[i], total, i == len(c.ticks)-1)
		}
		if total != c.total {
			t.Errorf("hertz %d: %d", c.hertz, total)
		}
		for _, ticks := range []uint64{0, 1, 1000, most, math.MaxUint64, 1, 0} {
			checkTo(t, s, ticks, 0, most, true)
		}
	}
}

// someTicks are ticks of every kind for that hertz: ends, seconds, and some of chance.
func someTicks(chance *rand.Rand, hertz uint64) []uint64 {
	list := []uint64{0, 1, 2, 3, 10, 999, 1000, 1001, hertz - 1, hertz, hertz + 1, 2 * hertz, hertz/2 + 1, math.MaxInt64, 1 << 63, math.MaxUint64, math.MaxUint64 - 1}
	for bit := range 64 {
		list = append(list, 1<<bit, 1<<bit-1)
	}
	for range 20 {
		list = append(list, chance.Uint64()>>chance.IntN(64), chance.Uint64N(hertz))
	}
	return list
}

// P10.2: of all hertz, ticks of every kind at the beginning, and behind such of every kind.
func TestTo(t *testing.T) {
	chance := rand.New(rand.NewPCG(102, 1))
	for _, hertz := range someHertz(chance) {
		list := someTicks(chance, hertz)
		for _, ticks := range list {
			step(t, made(t, hertz), modelOf(hertz), ticks)
			s, m := made(t, hertz), modelOf(hertz)
			for range 4 {
				step(t, s, m, list[chance.IntN(len(list))]>>chance.IntN(40))
			}
			step(t, s, m, ticks)
		}
	}
}

// P10.2: what is over of every kind, with ticks behind it that make it a nanosecond, or just don't.
func TestToRest(t *testing.T) {
	chance := rand.New(rand.NewPCG(102, 2))
	for _, hertz := range someHertz(chance) {
		for range 30 {
			s, m := made(t, hertz), modelOf(hertz)
			step(t, s, m, chance.Uint64N(hertz))
			next := new(big.Int).Add(m.exact(), number(1)) // the least ticks with so many nanoseconds, up
			next.Mul(next, m.hertz).Add(next, number(999_999_999)).Quo(next, number(1_000_000_000))
			more := next.Sub(next, m.ticks).Uint64()
			other, mine := s.Copy(), m.copied()
			if n := step(t, other, mine, more-1); n != 0 {
				t.Fatalf("hertz %d: one tick too few: %d", hertz, n)
			}
			if n := step(t, s, m, more); n < 1 {
				t.Fatalf("hertz %d: %d", hertz, n)
			}
			if n := step(t, other, mine, 1); n < 1 || other.Total() != s.Total() {
				t.Fatalf("hertz %d: %d, %d, %d", hertz, n, other.Total(), s.Total())
			}
		}
	}
}

// fill is the least number of ticks of which the total is MaxTime.
func fill(hertz uint64) *big.Int {
	n := new(big.Int).Mul(number(most), number(hertz))
	return n.Add(n, number(999_999_999)).Quo(n, number(1_000_000_000))
}

// goTo lets ticks go till so many went, in as few parts as may be.
func goTo(t *testing.T, s *scale.Scale, m *model, ticks *big.Int) {
	t.Helper()
	for m.ticks.Cmp(ticks) < 0 {
		left := new(big.Int).Sub(ticks, m.ticks)
		if !left.IsUint64() {
			left = number(math.MaxUint64)
		}
		step(t, s, m, left.Uint64())
	}
}

// P10.1, P10.2: of all hertz, a scale that is a tick from full is not, with that tick it is, and with more it stays.
func TestToFull(t *testing.T) {
	chance := rand.New(rand.NewPCG(102, 3))
	for _, hertz := range someHertz(chance) {
		s, m := made(t, hertz), modelOf(hertz)
		goTo(t, s, m, new(big.Int).Sub(fill(hertz), number(1)))
		if s.Full() || s.Total() >= most {
			t.Fatalf("hertz %d: full a tick too early", hertz)
		}
		for _, ticks := range []uint64{1, 2, hertz, 1 << 40, most, 1 << 63, math.MaxUint64, chance.Uint64() | 1} {
			other, mine := s.Copy(), m.copied()
			step(t, other, mine, 0)
			if n := step(t, other, mine, ticks); n < 1 || !other.Full() {
				t.Fatalf("hertz %d: To(%d) = %d, Full %t", hertz, ticks, n, other.Full())
			}
			for range 5 {
				step(t, other, mine, chance.Uint64()>>chance.IntN(64))
				step(t, other, mine, 0)
			}
		}
		checkModel(t, s, m)
	}
}

// P10.2: of a total just below MaxTime, ticks of every kind.
func TestToAlmostFull(t *testing.T) {
	chance := rand.New(rand.NewPCG(102, 4))
	for _, hertz := range someHertz(chance) {
		at := fill(hertz)
		at.Sub(at, number(1+chance.Uint64N(100*hertz)))
		s, m := made(t, hertz), modelOf(hertz)
		goTo(t, s, m, at)
		for _, ticks := range someTicks(chance, hertz) {
			other, mine := s.Copy(), m.copied()
			step(t, other, mine, ticks)
			step(t, other, mine, hertz)
		}
	}
}
