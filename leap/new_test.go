package leap_test

import (
	"math"
	"math/rand/v2"
	"slices"
	"testing"

	"ephemeris/api"
	"ephemeris/leap"
	"ephemeris/smear"
)

// checkRefused holds that New refuses what it is given, and does not change it.
func checkRefused(t *testing.T, l []api.Leap, expires int64, base int, want api.Errno) {
	t.Helper()
	kept := slices.Clone(l)
	if x, e := leap.New(l, expires, base); x != nil || e != want {
		t.Fatalf("New(%v, %d, %d) = %p, %d; want none, %d", l, expires, base, x, e, want)
	}
	if !slices.Equal(l, kept) {
		t.Fatalf("New made %v of %v", l, kept)
	}
}

// noTimes are numbers that may not be an expires.
func noTimes() []int64 {
	return []int64{math.MinInt64, -most - 1, -most, -day, -1, most + 1, most + 2, most + day, math.MaxInt64}
}

// noBases are numbers that may not be a base.
func noBases() []int {
	return []int{math.MinInt, -1 << 32, -65_536, -2000, -1002, -1001, 1001, 1002, 2000, 65_536, 1 << 32, math.MaxInt}
}

// P16.1: of no leaps, of one, of 32: a table of them.
func TestNewMany(t *testing.T) {
	chance := rand.New(rand.NewPCG(161, 2))
	for _, l := range [][]api.Leap{nil, {}, row(day, 1, 1), row(day, 1, -1), row(day, 2, 1), row(day, 31, -1), row(day, 32, 1), row(most-62*day, 32, -1), row(most, 1, 1)} {
		for _, expires := range []int64{0, 1, day, most} {
			for _, base := range []int{-1000, 0, 1000} {
				x, m := made(t, expires, base, l...)
				checkModel(t, x, m, fewInstants(chance, m)...)
			}
		}
	}
}

// P16.1: of 33 leaps, and of 33 that are no leaps, with an expires or a base that is out of range, too: that they are too many is told first.
func TestNewErrors(t *testing.T) {
	wrong := append(row(day, 32, 1), api.Leap{At: 80 * day})
	for _, l := range [][]api.Leap{row(day, 33, 1), row(day, 34, -1), row(0, 33, 1), row(day, 33, 0), wrong, make([]api.Leap, 33), make([]api.Leap, 1<<12)} {
		for _, expires := range append(noTimes(), 0, day, most) {
			for _, base := range append(noBases(), 0, 1000) {
				checkRefused(t, l, expires, base, api.ErrFull)
			}
		}
	}
	near := []api.Leap{{At: 10 * day, Kind: 1}, {At: 12*day - 1, Kind: 1}}
	for _, l := range [][]api.Leap{row(day-1, 1, 1), row(day, 1, 2), row(day, 1, 0), row(most+1, 1, 1), near, row(day, 32, -2), make([]api.Leap, 32), make([]api.Leap, 1)} {
		for _, expires := range append(noTimes(), 0, day, most) {
			for _, base := range append(noBases(), 0, 1000) {
				checkRefused(t, l, expires, base, api.ErrArg)
			}
		}
	}
}

// P16.1: what smear.New refuses is refused with its error, what it takes is taken.
func TestNewAsSmear(t *testing.T) {
	chance := rand.New(rand.NewPCG(161, 3))
	told := map[api.Errno]int{}
	for n := range 4000 {
		l := someLeaps(chance, 1+n%33)
		if n%4 > 0 {
			y := &l[chance.IntN(len(l))]
			y.At += (chance.Int64() >> chance.IntN(63)) * int64(1-chance.IntN(2)*2)
			y.Kind += []int{0, 0, 0, 1, -1, 2}[chance.IntN(6)]
		}
		_, want := smear.New(l)
		told[want]++
		if want != api.OK {
			checkRefused(t, l, someExpires(chance, nil), someBase(chance), want)
			continue
		}
		x, m := made(t, someExpires(chance, nil), someBase(chance), l...)
		checkList(t, x, m.leaps)
	}
	if told[api.OK] < 500 || told[api.ErrArg] < 500 || told[api.ErrFull] < 50 {
		t.Errorf("told %v", told)
	}
}

// P16.1: an expires of 0, of one below it, of MaxTime, of one above it, and further.
func TestNewExpires(t *testing.T) {
	for _, l := range [][]api.Leap{nil, row(day, 1, 1), row(day, 32, -1)} {
		for _, expires := range []int64{0, 1, day, most - 1, most} {
			x, m := made(t, expires, 0, l...)
			checkModel(t, x, m, expires-1, expires, expires+1)
			checkBits(t, x, expires, 3)
		}
		for _, expires := range noTimes() {
			checkRefused(t, l, expires, 0, api.ErrArg)
			checkRefused(t, l, expires, 1000, api.ErrArg)
		}
	}
}

// P16.1: a base of -1000, of 1000, of one below and one above, and further, also such as are within in a narrower number.
func TestNewBase(t *testing.T) {
	for _, l := range [][]api.Leap{nil, row(day, 1, 1), row(day, 32, -1)} {
		for _, base := range []int{-1000, -999, -1, 0, 1, 37, 999, 1000} {
			x, m := made(t, day, base, l...)
			checkModel(t, x, m, -1, 0, day-1, day, most)
		}
		for _, base := range noBases() {
			checkRefused(t, l, 0, base, api.ErrArg)
			checkRefused(t, l, most, base, api.ErrArg)
			checkRefused(t, l, -1, base, api.ErrArg)
		}
	}
}

// P16.1: the leaps are told each time in new memory; the table stays when one that it told is changed behind it.
func TestList(t *testing.T) {
	chance := rand.New(rand.NewPCG(161, 4))
	for many := range 33 {
		x, m := someTable(t, chance, many)
		checkList(t, x, m.leaps)
		for _, spoilt := range [][]api.Leap{x.List(), x.List(), x.Copy().List()} {
			for i := range spoilt {
				spoilt[i] = api.Leap{At: most, Kind: 7}
			}
			if grown := append(spoilt, api.Leap{At: 5, Kind: 5}); len(grown) != many+1 {
				t.Fatalf("%d leaps", len(grown))
			}
			checkModel(t, x, m, fewInstants(chance, m)...)
		}
	}
}

// P16.1: the table, and a copy, stay when the list that was handed to New is changed behind it, also where there is room in it.
func TestHandedIn(t *testing.T) {
	chance := rand.New(rand.NewPCG(161, 5))
	for many := range 33 {
		l := append(make([]api.Leap, 0, 40), someLeaps(chance, many)...)
		expires, base := someExpires(chance, l), someBase(chance)
		x, m := made(t, expires, base, l...)
		other, _ := made(t, expires, base, l...)
		copied := x.Copy()
		for i := range l[:cap(l)] {
			l[:cap(l)][i] = api.Leap{At: day, Kind: -3}
		}
		for _, y := range []*leap.Table{x, other, copied} {
			checkModel(t, y, m, fewInstants(chance, m)...)
		}
		if x == other || x == copied {
			t.Fatal("twice the very one")
		}
	}
}

// P16.1: a copy has the same, and lives apart: what is added to the one is not to be seen in the other, whichever it is, also copies of copies.
func TestCopy(t *testing.T) {
	chance := rand.New(rand.NewPCG(161, 6))
	for many := range 30 {
		l := row(day+chance.Int64N(day), many, 1-chance.IntN(2)*2)
		expires, base := chance.Int64N(most), someBase(chance)
		x, m := made(t, expires, base, l...)
		tables, models := []*leap.Table{x}, []model{m}
		for range 6 {
			from := chance.IntN(len(tables))
			tables, models = append(tables, tables[from].Copy()), append(models, models[from].copied())
			into := chance.IntN(len(tables))
			if len(models[into].leaps) < 32 {
				added(t, chance, tables[into], &models[into])
			}
			for i, y := range tables {
				checkModel(t, y, models[i], fewInstants(chance, models[i])...)
			}
		}
	}
}

// added lets one more leap be in a table and in its model.
func added(t *testing.T, chance *rand.Rand, x *leap.Table, m *model) {
	t.Helper()
	y := api.Leap{At: day, Kind: 1 - chance.IntN(2)*2}
	if many := len(m.leaps); many > 0 {
		y.At = m.leaps[many-1].At + 2*day
	}
	y.At += chance.Int64N(day)
	expires := m.expires + chance.Int64N(most-m.expires+1)
	checkAdd(t, x, y, expires, api.OK)
	m.leaps, m.expires = append(slices.Clone(m.leaps), y), expires
}

// P16.1: a table that is copied as a value lives apart, too.
func TestCopyOfValue(t *testing.T) {
	chance := rand.New(rand.NewPCG(161, 7))
	x, m := made(t, day, 5, row(day, 3, 1)...)
	value := *x
	for _, y := range []*leap.Table{x, &value} {
		other := m.copied()
		added(t, chance, y, &other)
		checkModel(t, y, other, fewInstants(chance, other)...)
	}
	if x.List()[3] == value.List()[3] {
		t.Error("one leap was added to both")
	}
}
