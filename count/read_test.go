package count_test

import (
	"math"
	"math/rand/v2"
	"testing"

	"ephemeris/api"
	"ephemeris/count"
)

// P9.2: ways by hand: ahead, round, none, all round but for one; what a counter holds behind each.
func TestReadByHand(t *testing.T) {
	for _, c := range []struct {
		bits                int
		first, reading, way uint64
	}{
		{8, 0, 0, 0}, {8, 0, 1, 1}, {8, 0, 255, 255}, {8, 255, 0, 1}, {8, 255, 255, 0}, {8, 255, 254, 255}, {8, 1, 0, 255}, {8, 7, 6, 255},
		{8, 128, 127, 255}, {8, 127, 128, 1}, {8, 200, 100, 156}, {8, 100, 200, 100},
		{12, 4095, 0, 1}, {12, 0, 4095, 4095}, {12, 3000, 1000, 2096},
		{16, 65_530, 4, 10}, {16, 65_535, 65_534, 65_535},
		{32, 4_294_967_295, 0, 1}, {32, 4_294_967_295, 4_294_967_294, 4_294_967_295}, {32, 0, 4_294_967_295, 4_294_967_295},
		{33, 4_294_967_296, 4_294_967_295, 8_589_934_591}, {33, 8_589_934_591, 0, 1},
		{63, 0, math.MaxInt64, math.MaxInt64}, {63, math.MaxInt64, 0, 1}, {63, 5, 4, math.MaxInt64}, {63, 5, 5, 0}, {63, 5, 6, 1},
		{64, 0, math.MaxInt64, math.MaxInt64}, {64, math.MaxUint64, 0, 1}, {64, math.MaxUint64, math.MaxInt64 - 1, math.MaxInt64},
		{64, 1 << 63, 0, 1 << 63}, {64, 1 << 63, math.MaxUint64, math.MaxInt64}, {64, math.MaxUint64, math.MaxUint64, 0},
		{64, 0, math.MaxUint64, math.MaxUint64}, {64, 5, 4, math.MaxUint64}, {64, 0, 1 << 63, 1 << 63}, {64, 1, 1 << 63, math.MaxInt64},
	} {
		counter := made(t, c.bits, c.first)
		if c.way > full {
			checkRead(t, counter, c.reading, 0, api.ErrFull, c.first, full, true)
			continue
		}
		checkRead(t, counter, c.reading, c.way, api.OK, c.reading, c.way, false)
		checkRead(t, counter, c.reading, 0, api.OK, c.reading, c.way, false)
	}
}

// P9.2: of 8 bits each reading behind each other one, and each number up to 1023 behind each.
func TestReadEightBits(t *testing.T) {
	for first := range uint64(256) {
		for reading := range uint64(1024) {
			step(t, made(t, 8, first), modelOf(8, first), reading)
		}
	}
}

// P9.2: of all bits, readings of every kind behind such of every kind.
func TestRead(t *testing.T) {
	chance := rand.New(rand.NewPCG(92, 1))
	for bits := 8; bits <= 64; bits++ {
		list, most := readings(chance, bits), greatest(bits)
		for _, first := range list {
			for range 30 {
				step(t, made(t, bits, first), modelOf(bits, first), list[chance.IntN(len(list))])
			}
			c, m := made(t, bits, first), modelOf(bits, first)
			for _, by := range []uint64{0, 1, 0, most, 0, most / 2, 2, 0} {
				step(t, c, m, (m.last.Uint64()+by)&most)
			}
		}
	}
}

// P9.2: a reading that is too great is ErrArg, and changes nothing: the next one goes on from the last one that was right.
func TestReadTooGreat(t *testing.T) {
	chance := rand.New(rand.NewPCG(92, 2))
	for bits := 8; bits < 64; bits++ {
		most := greatest(bits)
		for _, first := range []uint64{0, 1, most / 2, most, chance.Uint64() & most} {
			c := made(t, bits, first)
			for _, reading := range tooGreat(chance, bits) {
				checkRead(t, c, reading, 0, api.ErrArg, first, 0, false)
			}
			if bits < 63 {
				checkRead(t, c, (first+3)&most, 3, api.OK, (first+3)&most, 3, false)
				checkRead(t, c, most+1, 0, api.ErrArg, (first+3)&most, 3, false)
				checkRead(t, c, (first+2)&most, most, api.OK, (first+2)&most, most+3, false)
			}
		}
	}
}

// aheadOf is a counter whose total is less than 2^63 - 1 by that, and its last reading. It goes there by the longest ways that
// there are, so that narrow counters take too long.
func aheadOf(t *testing.T, bits int, first, by uint64) (*count.Counter, uint64) {
	t.Helper()
	c, most := made(t, bits, first), greatest(bits)
	last := first
	for full-by-c.Total() >= most {
		last = (last - 1) & most
		if way, e := c.Read(last); way != most || e != api.OK {
			t.Fatalf("%d bits: Read(%d) = %d, %d", bits, last, way, e)
		}
	}
	last = (last + (full - by - c.Total())) & most
	if _, e := c.Read(last); e != api.OK {
		t.Fatalf("%d bits: Read(%d): %d", bits, last, e)
	}
	checkHolds(t, c, last, full-by, false)
	return c, last
}

// wide are bits of which a counter is full soon.
func wide() []int { return []int{50, 51, 53, 56, 59, 60, 61, 62, 63, 64} }

// P9.2: a total that comes to just 2^63 - 1 is none too many, and does not fill the counter; it goes on by 0 then, by 1 no more.
func TestReadToFull(t *testing.T) {
	for _, bits := range wide() {
		most := greatest(bits)
		for _, by := range []uint64{0, 1, 2, 1000, most / 4} {
			c, last := aheadOf(t, bits, most-7, by)
			at := (last + by) & most
			checkRead(t, c, at, by, api.OK, at, full, false)
			checkRead(t, c, at, 0, api.OK, at, full, false)
			once := c.Copy()
			checkRead(t, once, (at-1)&most, 0, api.ErrFull, at, full, true)
			checkRead(t, c, (at+1)&most, 0, api.ErrFull, at, full, true)
			checkRead(t, c, at, 0, api.ErrFull, at, full, true)
		}
	}
}

// P9.2: one more than 2^63 - 1 would be too many: the total is 2^63 - 1 then, the last reading stays, and no way is told.
func TestReadBeyondFull(t *testing.T) {
	for _, bits := range wide() {
		most := greatest(bits)
		for _, by := range []uint64{0, 1, 2, 1000, most / 4} {
			ahead, last := aheadOf(t, bits, 3, by)
			for _, more := range []uint64{1, 2, 1000, most/2 - by, most - by} {
				c := ahead.Copy()
				if by+more <= most {
					checkRead(t, c, (last+by+more)&most, 0, api.ErrFull, last, full, true)
				}
			}
			checkHolds(t, ahead, last, full-by, false)
		}
	}
}

// P9.2: a full counter stays full, with its total and its last reading, whatever it reads: also the last reading, and what
// would have been in time; what is too great is ErrArg still.
func TestReadFull(t *testing.T) {
	chance := rand.New(rand.NewPCG(92, 3))
	for _, bits := range wide() {
		most := greatest(bits)
		c, last := aheadOf(t, bits, most, 5)
		checkRead(t, c, (last+6)&most, 0, api.ErrFull, last, full, true)
		for _, reading := range []uint64{last, (last + 1) & most, (last + 5) & most, (last + 6) & most, (last - 1) & most, last} {
			checkRead(t, c, reading, 0, api.ErrFull, last, full, true)
		}
		for _, reading := range readings(chance, bits) {
			checkRead(t, c, reading, 0, api.ErrFull, last, full, true)
			checkHolds(t, c.Copy(), last, full, true)
		}
		for _, reading := range tooGreat(chance, bits) {
			checkRead(t, c, reading, 0, api.ErrArg, last, full, true)
		}
	}
}

// P9.2: of several errors the first: of none ErrNil, also of what no counter may read; ErrArg ahead of ErrFull, of a full
// counter and of one that is just ahead of it, which is not filled by what it may not read.
func TestReadOrder(t *testing.T) {
	var none *count.Counter
	for _, c := range []*count.Counter{none, new(count.Counter)} {
		for _, reading := range []uint64{0, 256, math.MaxUint64} {
			checkRead(t, c, reading, 0, api.ErrNil, 0, 0, false)
		}
	}
	chance := rand.New(rand.NewPCG(92, 4))
	for _, bits := range wide() {
		for _, by := range []uint64{0, 1, 9} {
			c, last := aheadOf(t, bits, 0, by)
			for _, reading := range tooGreat(chance, bits) {
				checkRead(t, c, reading, 0, api.ErrArg, last, full-by, false)
			}
			at := (last + by) & greatest(bits)
			checkRead(t, c, at, by, api.OK, at, full, false)
			checkRead(t, c, (at+1)&greatest(bits), 0, api.ErrFull, at, full, true)
			for _, reading := range tooGreat(chance, bits) {
				checkRead(t, c, reading, 0, api.ErrArg, at, full, true)
			}
		}
	}
}

// P9.2: a counter that needs millions of readings to be full is so at the same total.
func TestReadLong(t *testing.T) {
	const bits = 40
	c, last := aheadOf(t, bits, 12, 1)
	checkRead(t, c, (last+2)&greatest(bits), 0, api.ErrFull, last, full, true)
	checkRead(t, c, last, 0, api.ErrFull, last, full, true)
}
