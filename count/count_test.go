package count_test

import (
	"math"
	"math/big"
	"math/rand/v2"
	"testing"

	"ephemeris/api"
	"ephemeris/count"
)

const full = math.MaxInt64

// model is what a counter has to hold, in exact numbers.
type model struct {
	bits        int
	last, total *big.Int
	full        bool
}

func number(n uint64) *big.Int { return new(big.Int).SetUint64(n) }

// round is 2^bits.
func round(bits int) *big.Int {
	n := big.NewInt(1)
	for range bits {
		n.Add(n, n)
	}
	return n
}

// modelOf is what a counter of that first reading has to hold.
func modelOf(bits int, first uint64) *model {
	return &model{bits: bits, last: number(first), total: new(big.Int)}
}

// read is what Read has to answer, and what the counter holds then.
func (m *model) read(reading uint64) (uint64, api.Errno) {
	n, most := number(reading), big.NewInt(full)
	if n.Cmp(round(m.bits)) >= 0 {
		return 0, api.ErrArg
	}
	way := new(big.Int).Sub(n, m.last)
	if way.Sign() < 0 {
		way.Add(way, round(m.bits))
	}
	sum := new(big.Int).Add(m.total, way)
	if m.full || sum.Cmp(most) > 0 {
		m.full, m.total = true, most
		return 0, api.ErrFull
	}
	m.last, m.total = n, sum
	return way.Uint64(), api.OK
}

// copied is a model of its own that holds the same.
func (m *model) copied() *model {
	return &model{bits: m.bits, last: new(big.Int).Set(m.last), total: new(big.Int).Set(m.total), full: m.full}
}

// made is a counter that has to be.
func made(t *testing.T, bits int, first uint64) *count.Counter {
	t.Helper()
	c, e := count.New(bits, first)
	if c == nil || e != api.OK {
		t.Fatalf("New(%d, %d) = %v, %d", bits, first, c, e)
	}
	return c
}

// checkHolds holds what the counter tells against what it has to hold.
func checkHolds(t *testing.T, c *count.Counter, last, total uint64, full bool) {
	t.Helper()
	if c.Last() != last || c.Total() != total || c.Full() != full {
		t.Fatalf("Last %d, Total %d, Full %t; want %d, %d, %t", c.Last(), c.Total(), c.Full(), last, total, full)
	}
}

// checkModel holds the counter against its model.
func checkModel(t *testing.T, c *count.Counter, m *model) {
	t.Helper()
	checkHolds(t, c, m.last.Uint64(), m.total.Uint64(), m.full)
}

// checkRead holds one Read, and what the counter holds behind it.
func checkRead(t *testing.T, c *count.Counter, reading, way uint64, e api.Errno, last, total uint64, full bool) {
	t.Helper()
	if got, gotten := c.Read(reading); got != way || gotten != e {
		t.Fatalf("Read(%d) = %d, %d; want %d, %d", reading, got, gotten, way, e)
	}
	checkHolds(t, c, last, total, full)
}

// step reads with the counter and its model, holds one against the other, and is the error.
func step(t *testing.T, c *count.Counter, m *model, reading uint64) api.Errno {
	t.Helper()
	before := m.copied()
	way, e := m.read(reading)
	if got, gotten := c.Read(reading); got != way || gotten != e {
		t.Fatalf("%d bits, behind %d, total %d, full %t: Read(%d) = %d, %d; want %d, %d",
			m.bits, before.last, before.total, before.full, reading, got, gotten, way, e)
	}
	checkModel(t, c, m)
	return e
}

// greatest is the greatest reading of so many bits.
func greatest(bits int) uint64 {
	return new(big.Int).Sub(round(bits), big.NewInt(1)).Uint64()
}

// readings are readings of every kind for so many bits, none of them too great: ends, halves, single bits, and some of chance.
func readings(chance *rand.Rand, bits int) []uint64 {
	most := greatest(bits)
	list := []uint64{0, 1, 2, 3, most, most - 1, most - 2, most / 2, most/2 + 1, most/2 + 2, most / 3}
	for bit := range bits {
		list = append(list, 1<<bit, most-1<<bit)
	}
	for range 20 {
		list = append(list, chance.Uint64()&most, (chance.Uint64()&most)>>chance.IntN(bits))
	}
	return list
}

// tooGreat are numbers from 2^bits on, none for 64 bits.
func tooGreat(chance *rand.Rand, bits int) []uint64 {
	if bits == 64 {
		return nil
	}
	least := uint64(1) << bits
	list := []uint64{least, least + 1, least | least/2, 2*least - 1, math.MaxUint64, math.MaxUint64 - 1, math.MaxUint64 - least/2, 1 << 63}
	for bit := bits; bit < 64; bit++ {
		list = append(list, 1<<bit, 1<<bit+chance.Uint64()&(least-1), math.MaxUint64-(1<<bit-1))
	}
	for range 20 {
		list = append(list, chance.Uint64()|least)
	}
	return list
}

// noBits are what a counter can't have as its bits, also such as are 8 to 64 in a narrower number.
func noBits() []int {
	list := []int{math.MinInt, math.MinInt + 8, math.MinInt + 64, math.MaxInt, math.MaxInt32, math.MinInt32, 1<<62 + 8, -1 << 62}
	for n := -300; n < 8; n++ {
		list = append(list, n)
	}
	for n := 65; n <= 400; n++ {
		list = append(list, n)
	}
	for bit := 9; bit < 63; bit++ {
		list = append(list, 1<<bit, 1<<bit+8, 1<<bit+32, 1<<bit+64, -1<<bit+8, -1<<bit+64)
	}
	return list
}

// checkNone holds that there is no such counter.
func checkNone(t *testing.T, bits int, first uint64) {
	t.Helper()
	if c, e := count.New(bits, first); c != nil || e != api.ErrArg {
		t.Errorf("New(%d, %d) = %v, %d", bits, first, c, e)
	}
}

// P9.1, P9.2: the chapter's examples.
func TestExamples(t *testing.T) {
	c := made(t, 8, 250)
	checkHolds(t, c, 250, 0, false)
	checkRead(t, c, 255, 5, api.OK, 255, 5, false)
	checkRead(t, c, 4, 5, api.OK, 4, 10, false)
	checkRead(t, c, 256, 0, api.ErrArg, 4, 10, false)
}

// P9.1: of 8 to 64 bits there are counters, of that last reading, and total 0; they are not full.
func TestNew(t *testing.T) {
	chance := rand.New(rand.NewPCG(91, 1))
	for bits := 8; bits <= 64; bits++ {
		for _, first := range readings(chance, bits) {
			checkHolds(t, made(t, bits, first), first, 0, false)
		}
	}
	for first := range uint64(256) {
		checkHolds(t, made(t, 8, first), first, 0, false)
	}
}

// P9.1: the edges, by hand.
func TestNewByHand(t *testing.T) {
	for _, c := range []struct {
		bits  int
		first uint64
		e     api.Errno
	}{
		{8, 0, api.OK}, {8, 255, api.OK}, {8, 256, api.ErrArg}, {8, math.MaxUint64, api.ErrArg},
		{9, 256, api.OK}, {9, 511, api.OK}, {9, 512, api.ErrArg},
		{32, 4_294_967_295, api.OK}, {32, 4_294_967_296, api.ErrArg}, {33, 4_294_967_296, api.OK},
		{63, 9_223_372_036_854_775_807, api.OK}, {63, 9_223_372_036_854_775_808, api.ErrArg}, {63, 18_446_744_073_709_551_615, api.ErrArg},
		{64, 0, api.OK}, {64, 9_223_372_036_854_775_808, api.OK}, {64, 18_446_744_073_709_551_615, api.OK},
		{7, 0, api.ErrArg}, {7, 127, api.ErrArg}, {7, 128, api.ErrArg}, {65, 0, api.ErrArg}, {65, math.MaxUint64, api.ErrArg},
		{0, 0, api.ErrArg}, {0, 1, api.ErrArg}, {-1, 0, api.ErrArg}, {-8, 0, api.ErrArg}, {-64, 5, api.ErrArg},
		{72, 0, api.ErrArg}, {256, 0, api.ErrArg}, {math.MinInt, 0, api.ErrArg}, {math.MaxInt, 0, api.ErrArg},
	} {
		if c.e != api.OK {
			checkNone(t, c.bits, c.first)
			continue
		}
		checkHolds(t, made(t, c.bits, c.first), c.first, 0, false)
	}
}

// P9.1: of other bits there is none, whatever it reads first, nor of a first reading that is too great.
func TestNewNone(t *testing.T) {
	chance := rand.New(rand.NewPCG(91, 2))
	for _, bits := range noBits() {
		for _, first := range []uint64{0, 1, 127, 128, 255, 256, math.MaxInt64, math.MaxUint64, chance.Uint64()} {
			checkNone(t, bits, first)
		}
	}
	for bits := 8; bits <= 64; bits++ {
		for _, first := range tooGreat(chance, bits) {
			checkNone(t, bits, first)
		}
	}
}

// P9.1, P9.2: none, and a counter that New did not make: each call, and each call again behind the others.
func TestNotMade(t *testing.T) {
	var none *count.Counter
	var holder struct{ at count.Counter }
	for _, c := range []*count.Counter{none, new(count.Counter), {}, &holder.at} {
		for range 3 {
			for _, reading := range []uint64{0, 1, 255, 256, math.MaxInt64, 1 << 63, math.MaxUint64} {
				checkRead(t, c, reading, 0, api.ErrNil, 0, 0, false)
			}
			if other := c.Copy(); other != nil {
				t.Errorf("a copy of none: %v", other)
			}
		}
	}
}

// checkApart reads on with one of two counters that hold the same, and holds that the other one stays, then with that.
func checkApart(t *testing.T, one, other *count.Counter, m *model, way []uint64) {
	t.Helper()
	if one == other {
		t.Fatal("a copy is the very one")
	}
	kept := m.copied()
	for _, reading := range way {
		step(t, one, m, reading)
		checkModel(t, other, kept)
	}
	if len(way) > 0 {
		step(t, other, kept, way[len(way)-1])
		checkModel(t, one, m)
	}
}

// P9.1: a copy and what it was made of hold the same, and go on apart, whichever reads on.
func TestCopy(t *testing.T) {
	chance := rand.New(rand.NewPCG(91, 3))
	for bits := 8; bits <= 64; bits++ {
		for range 10 {
			c, m := made(t, bits, 5), modelOf(bits, 5)
			for range chance.IntN(4) {
				step(t, c, m, chance.Uint64()>>(64-bits))
			}
			var way []uint64
			for range 5 {
				way = append(way, chance.Uint64()>>(64-bits), chance.Uint64())
			}
			other := c.Copy()
			checkModel(t, other, m)
			checkModel(t, c, m)
			checkApart(t, c, other, m.copied(), way)
			again := made(t, bits, 5)
			mine := modelOf(bits, 5)
			checkApart(t, again.Copy(), again, mine, way)
		}
	}
}

// P9.1: a copy of a copy, and copies of a counter that reads on between them, each as it was then.
func TestCopies(t *testing.T) {
	c, m := made(t, 8, 0), modelOf(8, 0)
	var copies []*count.Counter
	var models []*model
	for n := range uint64(100) {
		copies, models = append(copies, c.Copy().Copy()), append(models, m.copied())
		step(t, c, m, n*101%256)
	}
	for i := range copies {
		checkModel(t, copies[i], models[i])
		step(t, copies[i], models[i], 77)
	}
	checkModel(t, c, m)
}

// P9.1: a copy of a full counter is full and stays so; one that was made ahead is not, and goes on.
func TestCopyOfFull(t *testing.T) {
	c := made(t, 64, 9)
	ahead := c.Copy()
	checkRead(t, c, 8, 0, api.ErrFull, 9, full, true)
	behind := c.Copy()
	checkHolds(t, behind, 9, full, true)
	checkHolds(t, ahead, 9, 0, false)
	checkRead(t, ahead, 10, 1, api.OK, 10, 1, false)
	checkRead(t, behind, 9, 0, api.ErrFull, 9, full, true)
	checkRead(t, ahead, 9, 0, api.ErrFull, 10, full, true)
	checkHolds(t, c, 9, full, true)
}
