package leap_test

import (
	"math"
	"math/rand/v2"
	"slices"
	"testing"

	"ephemeris/api"
	"ephemeris/leap"
)

// checkAdd holds one Add.
func checkAdd(t *testing.T, x *leap.Table, y api.Leap, expires int64, want api.Errno) {
	t.Helper()
	l := x.List()
	if e := x.Add(y, expires); e != want {
		t.Fatalf("of %v: Add(%v, %d) = %d; want %d", l, y, expires, e, want)
	}
}

// adding is a leap and an expires that are added, and the error.
type adding struct {
	y       api.Leap
	expires int64
	e       api.Errno
}

// checkAdding holds all Adds of a list, each to a table of its own, that stays as it was with an error, as its copy does always.
func checkAdding(t *testing.T, expires int64, l []api.Leap, list []adding) {
	t.Helper()
	chance := rand.New(rand.NewPCG(163, 1))
	for _, way := range list {
		x, m := made(t, expires, 37, l...)
		other, copied := x.Copy(), m.copied()
		checkAdd(t, x, way.y, way.expires, way.e)
		if way.e == api.OK {
			m.leaps, m.expires = append(m.leaps, way.y), way.expires
		}
		checkModel(t, x, m, fewInstants(chance, m)...)
		checkModel(t, other, copied, fewInstants(chance, copied)...)
	}
}

// P16.3: by hand, to a table of none: the At and the Kind of what may be its first leap.
func TestAddToNone(t *testing.T) {
	checkAdding(t, 5*day, nil, []adding{
		{api.Leap{At: day, Kind: 1}, 5 * day, api.OK}, {api.Leap{At: day, Kind: -1}, 5 * day, api.OK}, {api.Leap{At: day + 1, Kind: 1}, 6 * day, api.OK},
		{api.Leap{At: most, Kind: 1}, most, api.OK}, {api.Leap{At: most, Kind: -1}, 5 * day, api.OK},
		{api.Leap{At: day - 1, Kind: 1}, 5 * day, api.ErrArg}, {api.Leap{At: 0, Kind: 1}, 5 * day, api.ErrArg}, {api.Leap{At: -1, Kind: 1}, 5 * day, api.ErrArg},
		{api.Leap{At: math.MinInt64, Kind: 1}, 5 * day, api.ErrArg}, {api.Leap{At: most + 1, Kind: 1}, 5 * day, api.ErrArg}, {api.Leap{At: math.MaxInt64, Kind: -1}, most, api.ErrArg},
		{api.Leap{At: day, Kind: 0}, 5 * day, api.ErrArg}, {api.Leap{At: day, Kind: 2}, 5 * day, api.ErrArg}, {api.Leap{At: day, Kind: -2}, 5 * day, api.ErrArg},
		{api.Leap{At: day, Kind: math.MaxInt}, 5 * day, api.ErrArg}, {api.Leap{}, 5 * day, api.ErrArg},
	})
}

// P16.3: by hand, to a table of one: of one too near, at the same, ahead of it, just two Days behind, of a wrong Kind, above MaxTime.
func TestAddToOne(t *testing.T) {
	for _, kind := range []int{1, -1} {
		checkAdding(t, 5*day, []api.Leap{{At: 10 * day, Kind: 1}}, []adding{
			{api.Leap{At: 12 * day, Kind: kind}, 5 * day, api.OK}, {api.Leap{At: 12*day + 1, Kind: kind}, 5 * day, api.OK}, {api.Leap{At: 100 * day, Kind: kind}, 100 * day, api.OK},
			{api.Leap{At: most, Kind: kind}, most, api.OK}, {api.Leap{At: 12*day - 1, Kind: kind}, 5 * day, api.ErrArg}, {api.Leap{At: 11 * day, Kind: kind}, 5 * day, api.ErrArg},
			{api.Leap{At: 10 * day, Kind: kind}, 5 * day, api.ErrArg}, {api.Leap{At: 8 * day, Kind: kind}, 5 * day, api.ErrArg}, {api.Leap{At: day, Kind: kind}, 5 * day, api.ErrArg},
			{api.Leap{At: 0, Kind: kind}, 5 * day, api.ErrArg}, {api.Leap{At: -20 * day, Kind: kind}, 5 * day, api.ErrArg}, {api.Leap{At: math.MinInt64, Kind: kind}, 5 * day, api.ErrArg},
			{api.Leap{At: most + 1, Kind: kind}, 5 * day, api.ErrArg}, {api.Leap{At: math.MaxInt64, Kind: kind}, 5 * day, api.ErrArg},
			{api.Leap{At: 12 * day, Kind: 2 * kind}, 5 * day, api.ErrArg}, {api.Leap{At: 12 * day, Kind: kind + 256}, 5 * day, api.ErrArg}, {api.Leap{At: 12 * day}, 5 * day, api.ErrArg},
		})
	}
	checkAdding(t, 0, []api.Leap{{At: most, Kind: 1}}, []adding{
		{api.Leap{At: most, Kind: 1}, 0, api.ErrArg}, {api.Leap{At: most + 2*day, Kind: 1}, 0, api.ErrArg}, {api.Leap{At: math.MaxInt64, Kind: 1}, 0, api.ErrArg},
	})
}

// P16.3: by hand, an expires that is below Expires, the same, greater; below 0, above MaxTime.
func TestAddExpires(t *testing.T) {
	y := api.Leap{At: 12 * day, Kind: 1}
	for _, l := range [][]api.Leap{nil, {{At: 10 * day, Kind: -1}}, row(day, 5, 1)} {
		checkAdding(t, 20*day, l, []adding{
			{y, 20 * day, api.OK}, {y, 20*day + 1, api.OK}, {y, most - 1, api.OK}, {y, most, api.OK}, {y, 20*day - 1, api.ErrArg}, {y, 10 * day, api.ErrArg},
			{y, 1, api.ErrArg}, {y, 0, api.ErrArg}, {y, -1, api.ErrArg}, {y, math.MinInt64, api.ErrArg}, {y, most + 1, api.ErrArg}, {y, math.MaxInt64, api.ErrArg},
		})
		checkAdding(t, 0, l, []adding{{y, 0, api.OK}, {y, 1, api.OK}, {y, most, api.OK}, {y, -1, api.ErrArg}, {y, most + 1, api.ErrArg}})
		checkAdding(t, most, l, []adding{{y, most, api.OK}, {y, most - 1, api.ErrArg}, {y, 0, api.ErrArg}, {y, most + 1, api.ErrArg}})
	}
}

// P16.3: by hand, to a table of 32, and of 31: that it is full is told ahead of all other faults.
func TestAddToMany(t *testing.T) {
	y := api.Leap{At: 80 * day, Kind: 1}
	full := []adding{
		{y, 20 * day, api.ErrFull}, {y, most, api.ErrFull}, {y, 19 * day, api.ErrFull}, {y, -1, api.ErrFull}, {y, most + 1, api.ErrFull}, {api.Leap{At: 63 * day, Kind: 1}, 20 * day, api.ErrFull},
		{api.Leap{At: 80 * day, Kind: 3}, 20 * day, api.ErrFull}, {api.Leap{At: 80 * day, Kind: 3}, -1, api.ErrFull}, {api.Leap{At: most + 1, Kind: 1}, 19 * day, api.ErrFull}, {api.Leap{}, 0, api.ErrFull},
	}
	for _, kind := range []int{1, -1} {
		checkAdding(t, 20*day, row(day, 32, kind), full)
		checkAdding(t, 20*day, row(day, 31, kind), []adding{{api.Leap{At: 63 * day, Kind: kind}, 20 * day, api.OK}, {api.Leap{At: 63*day - 1, Kind: kind}, 20 * day, api.ErrArg}, {y, 19 * day, api.ErrArg}})
	}
}

// P16.3: more than one fault at once, in a table that is not full: they are one error.
func TestAddFaults(t *testing.T) {
	l := row(day, 3, 1)
	for _, y := range []api.Leap{{At: 6 * day, Kind: 1}, {At: 7 * day, Kind: 0}, {At: most + 1, Kind: 1}, {At: 3 * day, Kind: 1}, {At: -1, Kind: -7}} {
		checkAdding(t, 20*day, l, []adding{{y, 20 * day, api.ErrArg}, {y, 19 * day, api.ErrArg}, {y, -1, api.ErrArg}, {y, most + 1, api.ErrArg}})
	}
}

// P16.3: one behind the other, from none to 32, and one more; with each the table is as one that New made, refused ones between.
func TestAddAll(t *testing.T) {
	chance := rand.New(rand.NewPCG(163, 2))
	for range 20 {
		l := someLeaps(chance, 32)
		base := someBase(chance)
		x, m := made(t, 0, base)
		for i, y := range l {
			checkAdd(t, x, api.Leap{At: y.At, Kind: 0}, most, api.ErrArg)
			checkAdd(t, x, y, m.expires-1, api.ErrArg)
			m.expires += chance.Int64N(most/33 + 1)
			checkAdd(t, x, y, m.expires, api.OK)
			m.leaps = l[:i+1]
			checkModel(t, x, m, fewInstants(chance, m)...)
			checkAdd(t, x, y, most, map[bool]api.Errno{false: api.ErrArg, true: api.ErrFull}[i == 31])
		}
		checkAdd(t, x, api.Leap{At: most, Kind: 1}, most, api.ErrFull)
		checkModel(t, x, m, fewInstants(chance, m)...)
	}
}

// P16.3: tables that were one, and to which different leaps are added: none sees another's, neither in a list that was told.
func TestAddApart(t *testing.T) {
	chance := rand.New(rand.NewPCG(163, 3))
	for many := range 31 {
		x, m := made(t, day, 0, row(day, many, 1)...)
		var tables []*leap.Table
		var told [][]api.Leap
		for range 4 {
			tables, told = append(tables, x.Copy()), append(told, x.List())
		}
		for i, y := range tables {
			checkAdd(t, y, api.Leap{At: 70*day + int64(i), Kind: 1 - i%2*2}, day+int64(i), api.OK)
			told = append(told, y.List())
			checkAdd(t, y, api.Leap{At: 72*day + int64(i), Kind: 1}, day+int64(i)+1, api.OK)
		}
		checkModel(t, x, m, fewInstants(chance, m)...)
		for i, y := range tables {
			first, next := api.Leap{At: 70*day + int64(i), Kind: 1 - i%2*2}, api.Leap{At: 72*day + int64(i), Kind: 1}
			want := model{append(slices.Clone(m.leaps), first, next), day + int64(i) + 1, 0}
			checkModel(t, y, want, fewInstants(chance, want)...)
			if !slices.Equal(told[i], m.leaps) || !slices.Equal(told[4+i], want.leaps[:many+1]) {
				t.Fatalf("told %v, then %v", told[i], told[4+i])
			}
		}
	}
}

// P16.3: Adds of chance, as New says of the leaps and one more.
func TestAdd(t *testing.T) {
	chance := rand.New(rand.NewPCG(163, 4))
	told := map[api.Errno]int{}
	for n := range 3000 {
		x, m := someTable(t, chance, n%33)
		last := int64(-day)
		if n%33 > 0 {
			last = m.leaps[n%33-1].At
		}
		y := api.Leap{At: last + 2*day + []int64{-1, 0, 1, chance.Int64N(day), chance.Int64N(most / 8)}[chance.IntN(5)], Kind: []int{1, 1, -1, -1, 0, 2}[chance.IntN(6)]}
		expires := max(m.expires+[]int64{-1, 0, 0, 1, chance.Int64N(most)}[chance.IntN(5)], -1)
		_, want := leap.New(append(x.List(), y), expires, m.base)
		if want == api.OK && expires < m.expires {
			want = api.ErrArg
		}
		checkAdd(t, x, y, expires, want)
		if want == api.OK {
			m.leaps, m.expires = append(slices.Clone(m.leaps), y), expires
		}
		checkModel(t, x, m, m.expires-1, m.expires, y.At-day, y.At-1, y.At, y.At+second-1)
		told[want]++
	}
	if told[api.OK] < 300 || told[api.ErrArg] < 300 || told[api.ErrFull] < 50 {
		t.Errorf("told %v", told)
	}
}
