package count_test

import (
	"math/big"
	"math/rand/v2"
	"testing"

	"ephemeris/api"
	"ephemeris/count"
)

// someWay is a way of every kind: none, all round but for one, short ones, long ones; less than 2^bits.
func someWay(chance *rand.Rand, bits int) uint64 {
	most := greatest(bits)
	switch chance.IntN(6) {
	case 0:
		return 0
	case 1:
		return 1
	case 2:
		return most
	case 3:
		return most - chance.Uint64()&most>>(bits/2)
	case 4:
		return chance.Uint64() & most >> chance.IntN(bits)
	}
	return chance.Uint64() & most
}

// readingOf is what a counter that read first at first reads when it has gone so far.
func readingOf(bits int, first uint64, gone *big.Int) uint64 {
	at := new(big.Int).Add(number(first), gone)
	return at.Mod(at, round(bits)).Uint64()
}

// checkWay reads with the counter what it reads behind one more way, and tells whether it is in time; gone is how far it goes.
func checkWay(t *testing.T, c *count.Counter, bits int, first uint64, gone *big.Int, way uint64) bool {
	t.Helper()
	beyond := new(big.Int).Add(gone, number(way))
	got, e := c.Read(readingOf(bits, first, beyond))
	if beyond.Cmp(big.NewInt(full)) > 0 {
		if got != 0 || e != api.ErrFull || c.Total() != full || !c.Full() {
			t.Fatalf("%d bits: gone %d and %d: %d, %d, Total %d, Full %t", bits, gone, way, got, e, c.Total(), c.Full())
		}
		return false
	}
	gone.Set(beyond)
	if got != way || e != api.OK || number(c.Total()).Cmp(gone) != 0 || c.Full() || c.Last() != readingOf(bits, first, gone) {
		t.Fatalf("%d bits: gone %d with %d: %d, %d, Last %d, Total %d, Full %t", bits, gone, way, got, e, c.Last(), c.Total(), c.Full())
	}
	return true
}

// P9.3: if a counter goes less than 2^bits ticks between readings, the total is how many it has gone, up to 2^63 - 1.
func TestFollow(t *testing.T) {
	chance := rand.New(rand.NewPCG(93, 1))
	inTime, late := 0, 0
	for bits := 8; bits <= 64; bits++ {
		for range 12 {
			first := chance.Uint64() & greatest(bits)
			c, gone := made(t, bits, first), new(big.Int)
			for range 300 {
				if !checkWay(t, c, bits, first, gone, someWay(chance, bits)) {
					late++
					break
				}
				inTime++
			}
		}
	}
	if inTime < 100_000 || late < 50 {
		t.Errorf("%d in time, %d late", inTime, late)
	}
}

// P9.3: many rounds of a narrow counter, by each of its ways.
func TestFollowRounds(t *testing.T) {
	for _, bits := range []int{8, 9} {
		for way := range greatest(bits) + 1 {
			first := way * 3 & greatest(bits)
			c, gone := made(t, bits, first), new(big.Int)
			for range 300 {
				checkWay(t, c, bits, first, gone, way)
			}
			if c.Total() != 300*way {
				t.Fatalf("300 times %d: %d", way, c.Total())
			}
		}
	}
}

// P9.3: what is refused between readings does not matter.
func TestFollowRefused(t *testing.T) {
	chance := rand.New(rand.NewPCG(93, 2))
	for bits := 8; bits < 64; bits++ {
		first := chance.Uint64() & greatest(bits)
		c, gone := made(t, bits, first), new(big.Int)
		great := tooGreat(chance, bits)
		for range 100 {
			if way, e := c.Read(great[chance.IntN(len(great))]); way != 0 || e != api.ErrArg {
				t.Fatalf("%d bits: %d, %d", bits, way, e)
			}
			if !checkWay(t, c, bits, first, gone, someWay(chance, bits)) {
				break
			}
		}
	}
}

// P9.4: readings one by one make the total of the last one alone, but for whole rounds.
func TestOneByOne(t *testing.T) {
	chance := rand.New(rand.NewPCG(94, 1))
	rounds := 0
	for bits := 8; bits <= 62; bits++ {
		for range 40 {
			first := chance.Uint64() & greatest(bits)
			many := made(t, bits, first)
			for range 1 + chance.IntN(100) {
				if _, e := many.Read(chance.Uint64() & greatest(bits)); e != api.OK {
					break
				}
			}
			if many.Full() {
				continue
			}
			one := made(t, bits, first)
			if way, e := one.Read(many.Last()); way != one.Total() || e != api.OK || one.Last() != many.Last() {
				t.Fatalf("%d bits: Read(%d) = %d, %d; Last %d, Total %d", bits, many.Last(), way, e, one.Last(), one.Total())
			}
			more := new(big.Int).Sub(number(many.Total()), number(one.Total()))
			left := new(big.Int)
			more.QuoRem(more, round(bits), left)
			if more.Sign() < 0 || left.Sign() != 0 {
				t.Fatalf("%d bits, from %d to %d: one by one %d, alone %d", bits, first, many.Last(), many.Total(), one.Total())
			}
			if more.Sign() > 0 {
				rounds++
			}
		}
	}
	if rounds < 1000 {
		t.Errorf("%d went round", rounds)
	}
}

// P9.4: within one round there is nothing to tell readings one by one and the last one alone apart.
func TestWithinARound(t *testing.T) {
	chance := rand.New(rand.NewPCG(94, 2))
	for bits := 8; bits <= 63; bits++ {
		for range 40 {
			first, left := chance.Uint64()&greatest(bits), greatest(bits)
			many := made(t, bits, first)
			for range 20 {
				way := min(left, someWay(chance, bits)>>chance.IntN(bits))
				left -= way
				if got, e := many.Read((many.Last() + way) & greatest(bits)); got != way || e != api.OK {
					t.Fatalf("%d bits: %d, %d; want %d", bits, got, e, way)
				}
			}
			one := made(t, bits, first)
			if way, e := one.Read(many.Last()); way != many.Total() || way != greatest(bits)-left || e != api.OK {
				t.Fatalf("%d bits: alone %d, %d; one by one %d", bits, way, e, many.Total())
			}
		}
	}
}
