package scale_test

import (
	"math/big"
	"math/rand/v2"
	"testing"

	"ephemeris/api"
	"ephemeris/scale"
)

// between is whether the nanoseconds are not above ticks by 10^9 by Hertz, and less than one below.
func between(total int64, ticks *big.Int, hertz uint64) bool {
	over := new(big.Int).Mul(ticks, number(api.Second))
	over.Sub(over, new(big.Int).Mul(big.NewInt(total), number(hertz)))
	return over.Sign() >= 0 && over.Cmp(number(hertz)) < 0
}

// near is whether the nanoseconds differ from ticks by 10^9 by Hertz by less than one.
func near(grown int64, ticks, hertz uint64) bool {
	over := new(big.Int).Mul(number(ticks), number(api.Second))
	over.Sub(over, new(big.Int).Mul(big.NewInt(grown), number(hertz)))
	return over.CmpAbs(number(hertz)) < 0
}

// parts are numbers that make so many ticks together, of every size.
func parts(chance *rand.Rand, ticks uint64) []uint64 {
	var list []uint64
	for ticks > 0 {
		n := min(ticks, chance.Uint64N(ticks+1)>>chance.IntN(20))
		if len(list) > 200 {
			n = ticks
		}
		list, ticks = append(list, n), ticks-n
	}
	return list
}

// P10.3, P10.4: ticks in parts and all at once make the same total, which is never above ticks by 10^9 by Hertz and less than one
// below; what To tells is never below 0, is less than one from its ticks by 10^9 by Hertz, and the total is the sum of it.
func TestParts(t *testing.T) {
	chance := rand.New(rand.NewPCG(103, 1))
	for _, hertz := range someHertz(chance) {
		for range 20 {
			ticks := chance.Uint64N(4_000_000_000*min(hertz, 4_000_000_000)) >> chance.IntN(40)
			many, one, sum := made(t, hertz), made(t, hertz), int64(0)
			gone := new(big.Int)
			for _, n := range parts(chance, ticks) {
				grown := many.To(n)
				gone.Add(gone, number(n))
				sum += grown
				if grown < 0 || !near(grown, n, hertz) || sum != many.Total() || !between(sum, gone, hertz) {
					t.Fatalf("hertz %d: To(%d) = %d, Total %d, sum %d of %d ticks", hertz, n, grown, many.Total(), sum, gone)
				}
			}
			if got := one.To(ticks); got != sum || one.Total() != sum || one.Full() || many.Full() {
				t.Fatalf("hertz %d: %d ticks at once %d, in parts %d", hertz, ticks, got, sum)
			}
			if *one != *many {
				t.Fatalf("hertz %d: %d ticks at once %v, in parts %v", hertz, ticks, *one, *many)
			}
		}
	}
}

// P10.3, P10.4: many ticks one by one, of hertz by which nothing comes out even: the error does not grow.
func TestOneByOne(t *testing.T) {
	for _, hertz := range []uint64{1, 3, 7, 32_768, 1_193_182, 333_333_334, 999_999_999, 1_000_000_000, 1_000_000_001, 2_399_997_000, 999_999_999_989, scale.MaxHertz} {
		const ticks = 300_000
		s, sum := made(t, hertz), int64(0)
		for n := range uint64(ticks) {
			grown := s.To(1)
			sum += grown
			if grown < 0 || sum != s.Total() || n%1009 == 0 && (!near(grown, 1, hertz) || !between(sum, number(n+1), hertz)) {
				t.Fatalf("hertz %d, tick %d: %d, Total %d, sum %d", hertz, n, grown, s.Total(), sum)
			}
		}
		one := made(t, hertz)
		if got := one.To(ticks); got != sum || s.Total() != got || *one != *s {
			t.Errorf("hertz %d: %d ticks at once %d, one by one %d", hertz, uint64(ticks), got, sum)
		}
		if n := one.To(hertz); n != api.Second {
			t.Errorf("hertz %d: a second more: %d", hertz, n)
		}
	}
}

// P10.3, P10.4: up to the end in parts, and beyond: the sum of all that was told is the total, at last MaxTime.
func TestPartsToFull(t *testing.T) {
	chance := rand.New(rand.NewPCG(104, 1))
	for _, hertz := range someHertz(chance) {
		s, sum, gone := made(t, hertz), int64(0), new(big.Int)
		for !s.Full() {
			n := chance.Uint64() >> chance.IntN(4)
			if room := new(big.Int).Quo(fill(hertz), number(50)); room.IsUint64() {
				n = chance.Uint64N(room.Uint64() + 2)
			}
			sum += s.To(n)
			gone.Add(gone, number(n))
			if sum != s.Total() || !s.Full() && !between(sum, gone, hertz) {
				t.Fatalf("hertz %d: sum %d, Total %d, of %d ticks", hertz, sum, s.Total(), gone)
			}
		}
		if sum != api.MaxTime || gone.Cmp(fill(hertz)) < 0 {
			t.Fatalf("hertz %d: full at %d of %d ticks", hertz, sum, gone)
		}
		for range 10 {
			if n := s.To(chance.Uint64() >> chance.IntN(64)); n != 0 || s.Total() != sum || !s.Full() {
				t.Fatalf("hertz %d: full, and %d more", hertz, n)
			}
		}
	}
}

// P10.5: ticks of a whole second are 10^9, of many that many, with other ticks ahead and behind.
func TestSeconds(t *testing.T) {
	chance := rand.New(rand.NewPCG(105, 1))
	for _, hertz := range someHertz(chance) {
		s := made(t, hertz)
		if n := s.To(hertz); n != api.Second || s.Total() != api.Second {
			t.Fatalf("hertz %d: a second at first: %d", hertz, n)
		}
		for range 50 {
			s.To(chance.Uint64N(3 * hertz))
			seconds := 1 + chance.Uint64N(1_000_000)
			if n := s.To(hertz * seconds); n != int64(seconds)*api.Second {
				t.Fatalf("hertz %d: %d seconds: %d", hertz, seconds, n)
			}
			if n := s.To(hertz); n != api.Second {
				t.Fatalf("hertz %d: a second: %d", hertz, n)
			}
			ahead := chance.Uint64N(hertz) + 1
			if n := s.To(ahead) + s.To(hertz-ahead); n != api.Second {
				t.Fatalf("hertz %d: a second in two parts, %d first: %d", hertz, ahead, n)
			}
		}
	}
}

// P10.3: scales are the same if they have the same hertz and the same ticks went, and two full ones of one hertz are too.
func TestSame(t *testing.T) {
	a, b, other := made(t, 3), made(t, 3), made(t, 6)
	a.To(2)
	if *a == *b {
		t.Error("two ticks of 3 and none are the same")
	}
	b.To(1)
	b.To(1)
	other.To(4)
	if *a != *b || *a != *a.Copy() || *a == *other || a.Total() != other.Total() {
		t.Errorf("%v, %v, %v", *a, *b, *other)
	}
	a.To(1 << 60)
	b.To(1 << 50)
	b.To(7)
	if !a.Full() || !b.Full() || *a != *b {
		t.Errorf("%v, %v", *a, *b)
	}
}
