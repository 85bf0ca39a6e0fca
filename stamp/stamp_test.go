package stamp_test

import (
	"math"
	"math/big"
	"math/rand/v2"
	"testing"

	"ephemeris/api"
	"ephemeris/stamp"
)

const (
	most     = math.MaxInt64
	least    = math.MinInt64
	era      = 4_294_967_296 * api.Second
	half     = era / 2
	mostNs   = 65_535_999_984_742 // of the greatest short
	shortest = math.MaxUint32
)

// edges are the times at which a sign, a second, an era or a limit ends, and their neighbours.
func edges() []int64 {
	list := []int64{least, least + 1, most - 1, most}
	for _, n := range []int64{0, 15_259, api.Second, 65_536 * api.Second, mostNs, half, era, era + half, 2 * era, api.MaxSpan,
		api.MaxTime, api.MaxTime - half, api.MaxTime + half, 3_900_000_000 * api.Second} {
		for _, by := range []int64{-api.Second, -5, -2, -1, 0, 1, 2, 5, api.Second} {
			list = append(list, n+by, -n+by)
		}
	}
	return list
}

// times are the edges and some of every length between them, the same ones in every run.
func times() []int64 {
	list := edges()
	chance := rand.New(rand.NewPCG(1, 1900))
	for length := range 64 {
		for range 8 {
			list = append(list, int64(chance.Uint64()>>length), -int64(chance.Uint64()>>length))
		}
	}
	return list
}

// words are 64 bits of every kind, the same ones in every run.
func words() []uint64 {
	list := []uint64{0, 1, 4, 5, math.MaxUint64, math.MaxUint64 - 4, 1<<63 - 1, 1 << 63, 1<<63 + 1, 1<<32 - 1, 1 << 32, 1<<32 + 1}
	for _, ns := range edges() {
		u := stamp.NsStamp(ns)
		list = append(list, u-5, u-1, u, u+1, u+5)
	}
	chance := rand.New(rand.NewPCG(2, 1900))
	for length := range 64 {
		list = append(list, chance.Uint64()>>length, chance.Uint64()<<length)
	}
	return list
}

// shorts are shorts of every kind, the same ones in every run.
func shorts() []uint32 {
	list := []uint32{0, 1, 2, 65_535, 65_536, 65_537, 1<<31 - 1, 1 << 31, shortest - 1, shortest}
	for n := range uint32(2_000) {
		list = append(list, n, shortest-n)
	}
	chance := rand.New(rand.NewPCG(3, 1900))
	for length := range 32 {
		list = append(list, chance.Uint32()>>length, chance.Uint32()<<length)
	}
	return list
}

// dates are dates of every kind, the same ones in every run.
func dates() []stamp.Date {
	list := []stamp.Date{{}, {Era: math.MinInt32}, {Era: math.MaxInt32, Off: math.MaxUint32, Frac: math.MaxUint64}}
	for _, ns := range times() {
		d := stamp.NsDate(ns)
		after, before := d, d
		after.Frac++
		before.Frac--
		list = append(list, d, after, before)
	}
	chance := rand.New(rand.NewPCG(4, 1900))
	for range 500 {
		list = append(list, stamp.Date{Era: int32(chance.IntN(9) - 4), Off: chance.Uint32(), Frac: chance.Uint64()},
			stamp.Date{Era: int32(chance.Uint32()), Off: chance.Uint32(), Frac: chance.Uint64()})
	}
	return list
}

func whole(n int64) *big.Int { return big.NewInt(n) }

// down is a b / c, down, and whether nothing was left.
func down(a, b, c *big.Int) (*big.Int, bool) {
	n, rest := new(big.Int), new(big.Int)
	n.DivMod(new(big.Int).Mul(a, b), c, rest) // c is above 0, so the rest is from 0 on
	return n, rest.Sign() == 0
}

// up is a b / c, up.
func up(a, b, c *big.Int) *big.Int {
	n, even := down(a, b, c)
	if !even {
		n.Add(n, whole(1))
	}
	return n
}

func power(n uint) *big.Int { return new(big.Int).Lsh(whole(1), n) }

// parts is a date by 2^64: its seconds from the beginning of era 0 on, as one number.
func parts(d stamp.Date) *big.Int {
	n := new(big.Int).Lsh(whole(int64(d.Era)), 96)
	n.Add(n, new(big.Int).Lsh(whole(int64(d.Off)), 64))
	return n.Add(n, new(big.Int).SetUint64(d.Frac))
}

// P2.1: a short's nanoseconds are u 10^9 / 2^16, up.
func TestShortNs(t *testing.T) {
	for _, u := range shorts() {
		want := up(whole(int64(u)), whole(api.Second), power(16))
		if ns := stamp.ShortNs(u); want.Cmp(whole(ns)) != 0 {
			t.Fatalf("ShortNs(%d) = %d; want %v", u, ns, want)
		}
	}
	for u, want := range map[uint32]int64{0: 0, 1: 15_259, 2: 30_518, 512: 7_812_500, 65_535: 999_984_742, 65_536: api.Second,
		1 << 31: 32_768 * api.Second, shortest - 1: 65_535_999_969_483, shortest: mostNs} {
		if ns := stamp.ShortNs(u); ns != want {
			t.Errorf("ShortNs(%d) = %d; want %d", u, ns, want)
		}
	}
}

// P2.1: the short tells at least so many, the one before it does not.
func TestNsShort(t *testing.T) {
	check := func(ns int64) {
		u := stamp.NsShort(ns)
		if ns < 1 && u != 0 || ns > mostNs && u != shortest {
			t.Fatalf("NsShort(%d) = %d", ns, u)
		}
		if ns >= 1 && ns <= mostNs && (stamp.ShortNs(u) < ns || u == 0 || stamp.ShortNs(u-1) >= ns) {
			t.Fatalf("NsShort(%d) = %d is not the least", ns, u)
		}
	}
	for _, ns := range times() {
		check(ns)
	}
	for _, u := range shorts() {
		for by := range int64(5) {
			check(stamp.ShortNs(u) + by - 2)
		}
	}
	for ns, want := range map[int64]uint32{least: 0, -api.Second: 0, -1: 0, 0: 0, 1: 1, 15_259: 1, 15_260: 2, 30_518: 2, 30_519: 3,
		999_984_742: 65_535, 999_984_743: 65_536, api.Second: 65_536, api.Second + 1: 65_537, 65_535_999_969_483: shortest - 1, 65_535_999_969_484: shortest,
		mostNs: shortest, mostNs + 1: shortest, 65_536 * api.Second: shortest, 1 << 48: shortest, 1<<48 + 1: shortest, api.MaxTime: shortest, most: shortest} {
		if u := stamp.NsShort(ns); u != want {
			t.Errorf("NsShort(%d) = %d; want %d", ns, u, want)
		}
	}
}

// P2.2: the stamp is ns 2^32 / 10^9, up, going round after an era.
func TestNsStamp(t *testing.T) {
	for _, ns := range times() {
		want := up(whole(ns), power(32), whole(api.Second))
		if want.Mod(want, power(64)); stamp.NsStamp(ns) != want.Uint64() {
			t.Fatalf("NsStamp(%d) = %x; want %x", ns, stamp.NsStamp(ns), want)
		}
	}
	for ns, want := range map[int64]uint64{0: 0, 1: 5, 2: 9, api.Second / 2: 1 << 31, api.Second - 1: 0xfffffffc, api.Second: 1 << 32, api.Second + 1: 1<<32 + 5,
		-1: 0xfffffffffffffffc, -api.Second: 0xffffffff00000000, -api.Second - 1: 0xfffffffefffffffc, era - 1: 0xfffffffffffffffc, era: 0, era + 1: 5, -era: 0, -era - 1: 0xfffffffffffffffc,
		half: 1 << 63, -half: 1 << 63, 2 * era: 0, 2_208_988_800 * api.Second: 0x83aa7e8000000000} {
		if u := stamp.NsStamp(ns); u != want {
			t.Errorf("NsStamp(%d) = %x; want %x", ns, u, want)
		}
	}
}

// nearest is what StampNs has to tell, by the instants themselves, before anything is rounded: they are counted in parts of 2^32 to the nanosecond.
func nearest(u uint64, pivot int64) int64 {
	believed := whole(min(max(pivot, 0), api.MaxTime))
	believed.Lsh(believed, 32)
	var best, bestFar *big.Int
	for n := int64(-2); n <= 2; n++ {
		at := new(big.Int).Mul(new(big.Int).Lsh(whole(n), 64), whole(api.Second))
		at.Add(at, new(big.Int).Mul(new(big.Int).SetUint64(u), whole(api.Second)))
		far := new(big.Int).Sub(at, believed)
		if far.Abs(far); best == nil || far.Cmp(bestFar) < 0 {
			best, bestFar = at, far
		}
	}
	return best.Rsh(best, 32).Int64() // down, below 0 too
}

// P2.2: a stamp's time is in the era that brings it nearest to the pivot.
func TestStampNs(t *testing.T) {
	for _, u := range words() {
		for _, pivot := range edges() {
			if ns, want := stamp.StampNs(u, pivot), nearest(u, pivot); ns != want {
				t.Fatalf("StampNs(%x, %d) = %d; want %d", u, pivot, ns, want)
			}
		}
	}
	for _, pivot := range times() {
		u := stamp.NsStamp(min(max(pivot, 0), api.MaxTime)) + 1<<63 // half an era away
		for by := range uint64(13) {
			if ns, want := stamp.StampNs(u+by-6, pivot), nearest(u+by-6, pivot); ns != want {
				t.Fatalf("StampNs(%x, %d) = %d; want %d", u+by-6, pivot, ns, want)
			}
		}
	}
}

// P2.2: what is written out here needs no other arithmetic to be believed.
func TestStampNsByHand(t *testing.T) {
	for _, c := range []struct {
		u         uint64
		pivot, ns int64
		what      string
	}{
		{5, 0, 1, "example"},
		{4, 0, 0, "down"},
		{0, era - 1, era, "example"},
		{0, 0, 0, "the beginning"},
		{1 << 32, 0, api.Second, "a second"},
		{math.MaxUint64, 0, -1, "below 0, down"},
		{0xffffffff00000000, 0, -api.Second, "below 0"},
		{0xfffffffefffffffb, 0, -api.Second - 2, "below 0, down"},
		{math.MaxUint64, half - 1, -1, "just nearer to the earlier one"},
		{math.MaxUint64, half, era - 1, "just nearer to the later one"},
		{1 << 63, 0, -half, "half an era away, of two the earlier one"},
		{1 << 63, 1, half, "a bit less than half an era away"},
		{0, half, 0, "half an era away, of two the earlier one"},
		{0, half + 1, era, "a bit less than half an era away"},
		{1, half, 0, "half an era away but for a bit of a nanosecond"},
		{1, half + 1, era, "half an era away and a bit of a nanosecond"},
		{4, half, 0, "half an era away but for most of a nanosecond"},
		{4, half + 1, era, "half an era away and most of a nanosecond"},
		{0, era + half, era, "half an era away, of two the earlier one"},
		{1 << 63, era, half, "half an era away, of two the earlier one"},
		{1 << 63, era + 1, era + half, "a bit less than half an era away"},
		{1 << 63, -1, -half, "a pivot below 0"},
		{1 << 63, -era + 1, -half, "a pivot below 0"},
		{0, -era, 0, "a pivot below 0"},
		{0xc000000000000000, -era, -half / 2, "a pivot below 0"},
		{0, least, 0, "a pivot below 0"},
		{0, api.MaxTime, era, "MaxTime"},
		{0, most, era, "a pivot above MaxTime"},
		{0, 2 * era, era, "a pivot above MaxTime"},
		{1 << 63, most, era + half, "a pivot above MaxTime"},
		{0x92e0be826d694b2f, api.MaxTime, api.MaxTime - half, "half an era away but for a bit of a nanosecond"},
		{0x92e0be826d694b2f, api.MaxTime + 1, api.MaxTime - half, "a pivot above MaxTime"},
		{0x92e0be826d694b2f, api.MaxTime + api.Second, api.MaxTime - half, "a pivot above MaxTime"},
		{0x92e0be826d694b2f, most, api.MaxTime - half, "a pivot above MaxTime"},
		{0x92e0be826d694b2e, api.MaxTime, api.MaxTime + half - 1, "the one before it, in the later era"},
		{0x92e0be826d694b2e, most, api.MaxTime + half - 1, "a pivot above MaxTime"},
	} {
		if ns := stamp.StampNs(c.u, c.pivot); ns != c.ns {
			t.Errorf("StampNs(%x, %d) = %d; want %d: %s", c.u, c.pivot, ns, c.ns, c.what)
		}
	}
}

// P2.3: the date is ns 2^64 / 10^9, up.
func TestNsDate(t *testing.T) {
	for _, ns := range times() {
		if d, want := stamp.NsDate(ns), up(whole(ns), power(64), whole(api.Second)); parts(d).Cmp(want) != 0 {
			t.Fatalf("NsDate(%d) = %v; want %v by 2^64", ns, d, want)
		}
	}
	for ns, want := range map[int64]stamp.Date{
		0:               {},
		1:               {Frac: 18_446_744_074},
		-1:              {Era: -1, Off: math.MaxUint32, Frac: 0xfffffffbb47d05f7},
		api.Second / 2:  {Frac: 1 << 63},
		api.Second - 1:  {Frac: 0xfffffffbb47d05f7},
		api.Second:      {Off: 1},
		-api.Second:     {Era: -1, Off: math.MaxUint32},
		-api.Second - 1: {Era: -1, Off: math.MaxUint32 - 1, Frac: 0xfffffffbb47d05f7},
		era - 1:         {Off: math.MaxUint32, Frac: 0xfffffffbb47d05f7},
		era:             {Era: 1},
		-era:            {Era: -1},
		-era - 1:        {Era: -2, Off: math.MaxUint32, Frac: 0xfffffffbb47d05f7},
		era + half + 1:  {Era: 1, Off: 1 << 31, Frac: 18_446_744_074},
		most:            {Era: 2, Off: 633_437_444, Frac: 0xdad296587a1d301b},
		least:           {Era: -3, Off: 3_661_529_851, Frac: 0x252d69a33a5fd5dd},
	} {
		if d := stamp.NsDate(ns); d != want {
			t.Errorf("NsDate(%d) = %v; want %v", ns, d, want)
		}
	}
}

// P2.3: a date's nanoseconds are its seconds' 10^9, down; ErrRange and 0, if they are beyond MaxTime.
func TestDateNs(t *testing.T) {
	for _, d := range dates() {
		exact, _ := down(parts(d), whole(api.Second), power(64))
		want, wantE := int64(0), api.ErrRange
		if new(big.Int).Abs(exact).Cmp(whole(api.MaxTime)) <= 0 {
			want, wantE = exact.Int64(), api.OK
		}
		if ns, e := stamp.DateNs(d); ns != want || e != wantE {
			t.Fatalf("DateNs(%v) = %d, %d; want %d, %d", d, ns, e, want, wantE)
		}
	}
}

// P2.3: what is written out here needs no other arithmetic to be believed.
func TestDateNsByHand(t *testing.T) {
	last, first := stamp.NsDate(api.MaxTime), stamp.NsDate(-api.MaxTime)
	beside := func(d stamp.Date, by uint64) stamp.Date {
		d.Frac += by
		return d
	}
	for _, c := range []struct {
		d    stamp.Date
		ns   int64
		e    api.Errno
		what string
	}{
		{stamp.Date{}, 0, api.OK, "the beginning"},
		{stamp.Date{Frac: 18_446_744_073}, 0, api.OK, "down"},
		{stamp.Date{Frac: 18_446_744_074}, 1, api.OK, "a nanosecond"},
		{stamp.Date{Frac: math.MaxUint64}, api.Second - 1, api.OK, "down"},
		{stamp.Date{Off: 1}, api.Second, api.OK, "a second"},
		{stamp.Date{Era: -1, Off: math.MaxUint32, Frac: 0xfffffffbb47d05f7}, -1, api.OK, "below 0"},
		{stamp.Date{Era: -1, Off: math.MaxUint32, Frac: 0xfffffffbb47d05f6}, -2, api.OK, "below 0, down"},
		{stamp.Date{Era: -1, Off: math.MaxUint32, Frac: math.MaxUint64}, -1, api.OK, "below 0, down"},
		{stamp.Date{Era: -1}, -era, api.OK, "an era below 0"},
		{stamp.Date{Era: 1}, era, api.OK, "an era"},
		{last, api.MaxTime, api.OK, "MaxTime"},
		{beside(last, 2_000_000_000), api.MaxTime, api.OK, "MaxTime and a bit of a nanosecond, down"},
		{stamp.NsDate(api.MaxTime + 1), 0, api.ErrRange, "MaxTime and 1"},
		{beside(stamp.NsDate(api.MaxTime+1), math.MaxUint64), api.MaxTime, api.OK, "just below MaxTime and 1, down"},
		{first, -api.MaxTime, api.OK, "-MaxTime"},
		{beside(first, math.MaxUint64), 0, api.ErrRange, "just below -MaxTime, down"},
		{stamp.NsDate(-api.MaxTime - 1), 0, api.ErrRange, "-MaxTime less 1"},
		{stamp.Date{Era: 1, Off: 316_718_722}, 4_611_686_018 * api.Second, api.OK, "MaxTime's last second"},
		{stamp.Date{Era: 1, Off: 316_718_723}, 0, api.ErrRange, "the second behind it"},
		{stamp.Date{Era: -2, Off: 3_978_248_574}, -4_611_686_018 * api.Second, api.OK, "-MaxTime's first whole second"},
		{stamp.Date{Era: -2, Off: 3_978_248_573}, 0, api.ErrRange, "the second before it"},
		{stamp.Date{Era: 2}, 0, api.ErrRange, "two eras"},
		{stamp.Date{Era: -2}, 0, api.ErrRange, "two eras below 0"},
		{stamp.Date{Era: math.MaxInt32, Off: math.MaxUint32, Frac: math.MaxUint64}, 0, api.ErrRange, "the last date"},
		{stamp.Date{Era: math.MinInt32}, 0, api.ErrRange, "the first date"},
		{stamp.Date{Era: 1 << 23}, 0, api.ErrRange, "2^64 5^9 nanoseconds, which gone round are 0"},
		{stamp.Date{Era: -1 << 23}, 0, api.ErrRange, "as many below 0"},
	} {
		if ns, e := stamp.DateNs(c.d); ns != c.ns || e != c.e {
			t.Errorf("DateNs(%v) = %d, %d; want %d, %d: %s", c.d, ns, e, c.ns, c.e, c.what)
		}
	}
}

// P2.3: a date's stamp has no era, and of the fraction the first half.
func TestStamp(t *testing.T) {
	for _, d := range dates() {
		want := parts(d)
		want.Rsh(want, 32)
		if want.Mod(want, power(64)); stamp.Stamp(d) != want.Uint64() {
			t.Fatalf("Stamp(%v) = %x; want %x", d, stamp.Stamp(d), want)
		}
	}
	for _, c := range []struct {
		d    stamp.Date
		want uint64
	}{
		{stamp.Date{}, 0},
		{stamp.Date{Frac: 1<<32 - 1}, 0},
		{stamp.Date{Frac: 1 << 32}, 1},
		{stamp.Date{Off: 1}, 1 << 32},
		{stamp.Date{Era: 1, Off: 2, Frac: 3<<32 + 4}, 2<<32 + 3},
		{stamp.Date{Era: -1, Off: math.MaxUint32, Frac: math.MaxUint64}, math.MaxUint64},
		{stamp.Date{Era: math.MinInt32, Off: 0x01234567, Frac: 0x89abcdefffffffff}, 0x0123456789abcdef},
	} {
		if u := stamp.Stamp(c.d); u != c.want {
			t.Errorf("Stamp(%v) = %x; want %x", c.d, u, c.want)
		}
	}
}

// P2.4: a time's stamp, and its date, lead back to it.
func TestBack(t *testing.T) {
	for _, ns := range times() {
		for _, by := range []int64{-half + 1, -half / 2, -1, 0, 1, api.Second, half - 1} {
			// What counts as another pivot may be half an era away after all.
			pivot := ns + by
			if (pivot < ns) != (by < 0) || pivot < 0 || pivot > api.MaxTime {
				continue
			}
			if back := stamp.StampNs(stamp.NsStamp(ns), pivot); back != ns {
				t.Fatalf("StampNs of NsStamp(%d), pivot %d: %d", ns, pivot, back)
			}
		}
		back, e := stamp.DateNs(stamp.NsDate(ns))
		if in := ns >= -api.MaxTime && ns <= api.MaxTime; in && (back != ns || e != api.OK) || !in && (back != 0 || e != api.ErrRange) {
			t.Fatalf("DateNs of NsDate(%d): %d, %d", ns, back, e)
		}
	}
}

// P2.4, P2.6: a stamp's time leads back to it, or to one that is less by less than 5, and is at most half an era from the pivot.
func TestStampBack(t *testing.T) {
	lost := map[uint64]bool{}
	for _, u := range words() {
		for _, pivot := range times() {
			ns := stamp.StampNs(u, pivot)
			by := u - stamp.NsStamp(ns)
			if lost[by] = true; by >= 5 {
				t.Fatalf("NsStamp of StampNs(%x, %d) is less by %d", u, pivot, by)
			}
			if far := ns - min(max(pivot, 0), api.MaxTime); far < -half || far > half {
				t.Fatalf("StampNs(%x, %d) = %d is %d away", u, pivot, ns, far)
			}
		}
	}
	if len(lost) != 5 {
		t.Errorf("of 0 to 4 parts that may be lost only %d were seen", len(lost))
	}
}

// P2.5: of two times the later one has the later date, of two dates the later one has no earlier time; a short's time leads back to it.
func TestOrder(t *testing.T) {
	list := times()
	for i, a := range list {
		for _, b := range list[:i] {
			if d, c := stamp.NsDate(a), stamp.NsDate(b); parts(d).Cmp(parts(c)) != whole(a).Cmp(whole(b)) {
				t.Fatalf("NsDate(%d) = %v, NsDate(%d) = %v", a, d, b, c)
			}
		}
	}
	for _, d := range dates() {
		after := d
		if after.Frac++; after.Frac == 0 {
			continue
		}
		ns, e := stamp.DateNs(d)
		if next, nextE := stamp.DateNs(after); e == api.OK && nextE == api.OK && next != ns && next != ns+1 {
			t.Fatalf("DateNs(%v) = %d, of the one behind it %d", d, ns, next)
		}
	}
	for _, u := range shorts() {
		if back := stamp.NsShort(stamp.ShortNs(u)); back != u {
			t.Fatalf("NsShort of ShortNs(%d): %d", u, back)
		}
	}
}
