package scale_test

import (
	"math"
	"math/big"
	"math/rand/v2"
	"testing"

	"ephemeris/api"
	"ephemeris/scale"
)

const most = 4_611_686_018_427_387_904 // MaxTime

// model is what a scale has to hold, in exact numbers.
type model struct {
	hertz, ticks *big.Int
}

func number(n uint64) *big.Int { return new(big.Int).SetUint64(n) }

// modelOf is what a scale of that hertz of which no ticks went has to hold.
func modelOf(hertz uint64) *model { return &model{hertz: number(hertz), ticks: new(big.Int)} }

// exact is ticks by 10^9 by Hertz, down, as if no scale were ever full.
func (m *model) exact() *big.Int {
	n := new(big.Int).Mul(m.ticks, number(1_000_000_000))
	return n.Quo(n, m.hertz)
}

// total is what Total has to tell.
func (m *model) total() int64 {
	if n := m.exact(); n.Cmp(number(most)) < 0 {
		return n.Int64()
	}
	return most
}

// to is what To has to tell, and what the scale holds then.
func (m *model) to(ticks uint64) int64 {
	before := m.total()
	m.ticks.Add(m.ticks, number(ticks))
	return m.total() - before
}

// copied is a model of its own that holds the same.
func (m *model) copied() *model {
	return &model{hertz: new(big.Int).Set(m.hertz), ticks: new(big.Int).Set(m.ticks)}
}

// made is a scale that has to be.
func made(t *testing.T, hertz uint64) *scale.Scale {
	t.Helper()
	s, e := scale.New(hertz)
	if s == nil || e != api.OK {
		t.Fatalf("New(%d) = %v, %d", hertz, s, e)
	}
	return s
}

// tickOf is how many nanoseconds a tick has, counted: the least number of them that makes a second or more of all ticks.
func tickOf(hertz uint64) int64 {
	n := new(big.Int).Quo(number(1_000_000_000), number(hertz))
	if new(big.Int).Mul(n, number(hertz)).Cmp(number(1_000_000_000)) < 0 {
		n.Add(n, number(1))
	}
	return n.Int64()
}

// checkHolds holds what the scale tells against what it has to hold.
func checkHolds(t *testing.T, s *scale.Scale, total int64, full bool, tick int64) {
	t.Helper()
	if s.Total() != total || s.Full() != full || s.Tick() != tick {
		t.Fatalf("Total %d, Full %t, Tick %d; want %d, %t, %d", s.Total(), s.Full(), s.Tick(), total, full, tick)
	}
}

// checkModel holds the scale against its model.
func checkModel(t *testing.T, s *scale.Scale, m *model) {
	t.Helper()
	checkHolds(t, s, m.total(), m.total() == most, tickOf(m.hertz.Uint64()))
}

// checkTo holds one To, and what the scale tells behind it.
func checkTo(t *testing.T, s *scale.Scale, ticks uint64, grown, total int64, full bool) {
	t.Helper()
	tick := s.Tick()
	if got := s.To(ticks); got != grown {
		t.Fatalf("To(%d) = %d; want %d", ticks, got, grown)
	}
	checkHolds(t, s, total, full, tick)
}

// step lets ticks go of the scale and its model, holds one against the other, and is by how much the total grew.
func step(t *testing.T, s *scale.Scale, m *model, ticks uint64) int64 {
	t.Helper()
	before := m.copied()
	want := m.to(ticks)
	if got := s.To(ticks); got != want {
		t.Fatalf("hertz %d, behind %d ticks: To(%d) = %d; want %d", m.hertz, before.ticks, ticks, got, want)
	}
	checkModel(t, s, m)
	return want
}

// someHertz are hertz of every kind: ends, such as 10^9 can be divided by and such as it can't, below it and above, and some of chance.
func someHertz(chance *rand.Rand) []uint64 {
	list := []uint64{
		1, 2, 3, 4, 5, 6, 7, 8, 9, 10, 11, 60, 100, 256, 1000, 1024, 32_768, 65_536, 1_000_000, 1_193_182, 3_579_545, 14_318_180,
		19_200_000, 24_000_000, 100_000_000, 333_333_333, 333_333_334, 499_999_999, 500_000_000, 500_000_001,
		999_999_998, 999_999_999, 1_000_000_000, 1_000_000_001, 1_000_000_002, 1_000_000_007, 1_500_000_000,
		1_999_999_999, 2_000_000_000, 2_000_000_001, 2_399_997_000, 3_000_000_000, 3_999_999_999, 4_000_000_000, 4_000_000_001,
		4_294_967_295, 4_294_967_296, 4_294_967_297, 10_000_000_000, 99_999_999_977, 500_000_000_000,
		999_999_999_000, 999_999_999_989, 999_999_999_999, scale.MaxHertz,
	}
	for range 60 {
		list = append(list, 1+chance.Uint64N(scale.MaxHertz), 1+chance.Uint64N(scale.MaxHertz)>>chance.IntN(40))
	}
	return list
}

// noHertz are numbers of which there is no scale, also such as may be in a narrower number.
func noHertz(chance *rand.Rand) []uint64 {
	list := []uint64{
		0, scale.MaxHertz + 1, scale.MaxHertz + 2, 2 * scale.MaxHertz, 1_000_000_000_000_000_000, 1 << 40, 1<<40 + 1, 1 << 62,
		math.MaxInt64, math.MaxInt64 + 1, math.MaxUint64, math.MaxUint64 - 1, math.MaxUint64 - scale.MaxHertz,
	}
	for bit := 40; bit < 64; bit++ {
		list = append(list, 1<<bit, 1<<bit+1, 1<<bit+1000, 1<<bit+1_000_000_000, math.MaxUint64-(1<<bit-1))
	}
	for range 100 {
		list = append(list, scale.MaxHertz+1+chance.Uint64N(scale.MaxHertz), chance.Uint64()|1<<63, chance.Uint64()|1<<40)
	}
	return list
}

// P10.1, P10.2: the chapter's examples.
func TestExamples(t *testing.T) {
	s := made(t, 3)
	checkTo(t, s, 1, 333_333_333, 333_333_333, false)
	checkTo(t, s, 1, 333_333_333, 666_666_666, false)
	checkTo(t, s, 1, 333_333_334, 1_000_000_000, false)
	if a, b := scale.Tick(3), scale.Tick(1_000_000_000_000); a != 333_333_334 || b != 1 {
		t.Errorf("Tick(3), Tick(10^12) = %d, %d", a, b)
	}
}

// P10.1: of 1 to MaxHertz there are scales, of which no ticks went; MaxHertz is 10^12.
func TestNew(t *testing.T) {
	if scale.MaxHertz != 1_000_000_000_000 || api.MaxTime != most {
		t.Errorf("MaxHertz %d, MaxTime %d", uint64(scale.MaxHertz), uint64(api.MaxTime))
	}
	for _, hertz := range someHertz(rand.New(rand.NewPCG(101, 1))) {
		checkHolds(t, made(t, hertz), 0, false, tickOf(hertz))
		checkModel(t, made(t, hertz), modelOf(hertz))
	}
	for hertz := uint64(1); hertz <= 3000; hertz++ {
		checkHolds(t, made(t, hertz), 0, false, tickOf(hertz))
		checkHolds(t, made(t, scale.MaxHertz+1-hertz), 0, false, 1)
	}
}

// P10.1: of other hertz there is none, and of none there is no tick.
func TestNewNone(t *testing.T) {
	for _, hertz := range noHertz(rand.New(rand.NewPCG(101, 2))) {
		if s, e := scale.New(hertz); s != nil || e != api.ErrArg {
			t.Errorf("New(%d) = %v, %d", hertz, s, e)
		}
		if n := scale.Tick(hertz); n != 0 {
			t.Errorf("Tick(%d) = %d", hertz, n)
		}
	}
}

// P10.1: ticks by hand, of the function and of the scale, at its beginning, when ticks went, and when it is full.
func TestTickByHand(t *testing.T) {
	for _, c := range []struct {
		hertz uint64
		tick  int64
	}{
		{1, 1_000_000_000}, {2, 500_000_000}, {3, 333_333_334}, {4, 250_000_000}, {6, 166_666_667}, {7, 142_857_143}, {9, 111_111_112},
		{60, 16_666_667}, {1000, 1_000_000}, {1001, 999_001}, {32_768, 30_518}, {1_000_000, 1000}, {1_193_182, 839},
		{100_000_000, 10}, {333_333_333, 4}, {333_333_334, 3}, {499_999_999, 3}, {500_000_000, 2}, {500_000_001, 2},
		{999_999_998, 2}, {999_999_999, 2}, {1_000_000_000, 1}, {1_000_000_001, 1}, {1_999_999_999, 1}, {2_000_000_000, 1},
		{2_000_000_001, 1}, {4_294_967_296, 1}, {999_999_999_999, 1}, {1_000_000_000_000, 1},
		{0, 0}, {1_000_000_000_001, 0}, {2_000_000_000_000, 0}, {math.MaxInt64, 0}, {1 << 63, 0}, {math.MaxUint64, 0},
	} {
		if got := scale.Tick(c.hertz); got != c.tick {
			t.Errorf("Tick(%d) = %d; want %d", c.hertz, got, c.tick)
		}
		if c.tick == 0 {
			continue
		}
		s := made(t, c.hertz)
		for _, ticks := range []uint64{0, 1, 12_345, math.MaxUint64, math.MaxUint64} {
			if s.Tick() != c.tick {
				t.Errorf("hertz %d: Tick() = %d; want %d", c.hertz, s.Tick(), c.tick)
			}
			s.To(ticks)
		}
	}
}

// P10.1: a tick is rounded up, so that a second's ticks have a second or more of it, and less than one more each.
func TestTick(t *testing.T) {
	for _, hertz := range someHertz(rand.New(rand.NewPCG(101, 3))) {
		n := scale.Tick(hertz)
		all := new(big.Int).Mul(big.NewInt(n), number(hertz))
		less := new(big.Int).Mul(big.NewInt(n-1), number(hertz))
		if n < 1 || all.Cmp(number(api.Second)) < 0 || less.Cmp(number(api.Second)) >= 0 {
			t.Errorf("Tick(%d) = %d", hertz, n)
		}
		if s := made(t, hertz); s.Tick() != n {
			t.Errorf("hertz %d: Tick() = %d, Tick of it %d", hertz, s.Tick(), n)
		}
	}
}

// P10.1, P10.2: none, and a scale that New did not make: each call, and each call again behind the others.
func TestNotMade(t *testing.T) {
	var none *scale.Scale
	var holder struct{ at scale.Scale }
	for _, s := range []*scale.Scale{none, new(scale.Scale), {}, &holder.at} {
		for range 3 {
			checkHolds(t, s, 0, false, 0)
			for _, ticks := range []uint64{0, 1, 999_999_999, 1_000_000_000, math.MaxInt64, 1 << 63, math.MaxUint64} {
				checkTo(t, s, ticks, 0, 0, false)
			}
			if other := s.Copy(); other != nil {
				t.Errorf("a copy of none: %v", other)
			}
		}
	}
}

// checkApart lets ticks go of one of two scales that hold the same, and holds that the other one stays, then of that.
func checkApart(t *testing.T, one, other *scale.Scale, m *model, way []uint64) {
	t.Helper()
	if one == other {
		t.Fatal("a copy is the very one")
	}
	kept := m.copied()
	for _, ticks := range way {
		step(t, one, m, ticks)
		checkModel(t, other, kept)
	}
	for _, ticks := range way {
		step(t, other, kept, ticks+1)
		checkModel(t, one, m)
	}
}

// P10.1: a copy and what it was made of have the same, what is over too, and live apart, whichever has ticks go.
func TestCopy(t *testing.T) {
	chance := rand.New(rand.NewPCG(101, 4))
	for _, hertz := range someHertz(chance) {
		for range 4 {
			s, m := made(t, hertz), modelOf(hertz)
			for range chance.IntN(4) {
				step(t, s, m, chance.Uint64()>>chance.IntN(64))
			}
			var way []uint64
			for range 5 {
				way = append(way, chance.Uint64()>>chance.IntN(64), chance.Uint64N(2*hertz))
			}
			other := s.Copy()
			checkModel(t, other, m)
			checkModel(t, s, m)
			checkApart(t, s, other, m.copied(), way)
			again := made(t, hertz)
			checkApart(t, again.Copy(), again, modelOf(hertz), way)
		}
	}
}

// P10.1: what is over goes to the copy: two ticks of a third of a second each are behind it as behind what it was made of.
func TestCopyOfRest(t *testing.T) {
	s := made(t, 3)
	checkTo(t, s, 2, 666_666_666, 666_666_666, false)
	other := s.Copy()
	checkTo(t, other, 1, 333_333_334, 1_000_000_000, false)
	checkHolds(t, s, 666_666_666, false, 333_333_334)
	checkTo(t, s, 2, 666_666_667, 1_333_333_333, false)
	checkHolds(t, other, 1_000_000_000, false, 333_333_334)
}

// P10.1: a copy of a full scale is full and stays so; one that was made ahead is not, and goes on.
func TestCopyOfFull(t *testing.T) {
	s := made(t, 2)
	checkTo(t, s, 1, 500_000_000, 500_000_000, false)
	ahead := s.Copy()
	checkTo(t, s, math.MaxUint64, most-500_000_000, most, true)
	behind := s.Copy()
	checkHolds(t, behind, most, true, 500_000_000)
	checkHolds(t, ahead, 500_000_000, false, 500_000_000)
	checkTo(t, ahead, 3, 1_500_000_000, 2_000_000_000, false)
	checkTo(t, behind, 1, 0, most, true)
	checkTo(t, ahead, math.MaxUint64, most-2_000_000_000, most, true)
	checkHolds(t, s, most, true, 500_000_000)
}

// P10.1: copies of copies, of a scale that has ticks go between them, each as it was then.
func TestCopies(t *testing.T) {
	s, m := made(t, 7), modelOf(7)
	var copies []*scale.Scale
	var models []*model
	for n := range uint64(100) {
		copies, models = append(copies, s.Copy().Copy()), append(models, m.copied())
		step(t, s, m, n*n%11)
	}
	for i := range copies {
		checkModel(t, copies[i], models[i])
		step(t, copies[i], models[i], 5)
	}
	checkModel(t, s, m)
}
