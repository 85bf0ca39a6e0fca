package leap_test

import (
	"math"
	"math/rand/v2"
	"slices"
	"testing"

	"ephemeris/api"
	"ephemeris/leap"
	"ephemeris/smear"
)

const (
	most   = 4_611_686_018_427_387_904 // MaxTime
	second = 1_000_000_000
	day    = 86_400_000_000_000
)

// model is what a table has; what it has to tell is worked out from the stretches that leaps part the instants into.
type model struct {
	leaps   []api.Leap
	expires int64
	base    int
}

// stretch is instants from one on, below another, that have one offset, and are inserted or not.
type stretch struct {
	from, till int64
	offset     int
	inserted   bool
}

// stretches are all of a model, from far below 0 to far above MaxTime.
func (m model) stretches() []stretch {
	list := make([]stretch, 0, 2*len(m.leaps)+1)
	from, offset := int64(math.MinInt64), m.base
	for _, y := range m.leaps {
		list = append(list, stretch{from, y.At, offset, false})
		from, offset = y.At, offset+y.Kind
		if y.Kind == 1 {
			list = append(list, stretch{from, from + second, offset, true})
			from += second
		}
	}
	return append(list, stretch{from, math.MaxInt64, offset, false})
}

// stands is the stretch that an instant stands in.
func (m model) stands(t int64) stretch {
	list := m.stretches()
	for _, in := range list {
		if t < in.till {
			return in
		}
	}
	return list[len(list)-1]
}

// label is what Label has to tell.
func (m model) label(t int64) (int64, bool) {
	in := m.stands(t)
	return t - int64(in.offset)*second, in.inserted
}

// even is what Even has to tell: the first instant of the stretches' labels; labels that no instant from 0 to MaxTime could have are left out, so that no sum wraps.
func (m model) even(label int64, inserted bool) (int64, bool) {
	if label < -2000*second || label > most+2000*second {
		return 0, false
	}
	for _, in := range m.stretches() {
		at := label + int64(in.offset)*second
		if in.inserted == inserted && max(in.from, 0) <= at && at < min(in.till, most+1) {
			return at, true
		}
	}
	return 0, false
}

// next is what Next has to tell.
func (m model) next(t int64) (api.Leap, bool) {
	for _, y := range m.leaps {
		if t < y.At {
			return y, true
		}
	}
	return api.Leap{}, false
}

// bits is what Bits has to tell.
func (m model) bits(t int64) byte {
	if t >= m.expires {
		return 3
	}
	for _, y := range m.leaps {
		if y.At-day <= t && t < y.At {
			return map[int]byte{1: 1, -1: 2}[y.Kind]
		}
	}
	return 0
}

// copied is a model of its own that has the same.
func (m model) copied() model {
	return model{slices.Clone(m.leaps), m.expires, m.base}
}

// made is a new table of what may be, which New does not change, and its model.
func made(t *testing.T, expires int64, base int, l ...api.Leap) (*leap.Table, model) {
	t.Helper()
	m := model{slices.Clone(l), expires, base}
	x, e := leap.New(l, expires, base)
	if x == nil || e != api.OK {
		t.Fatalf("New(%v, %d, %d) = %p, %d", l, expires, base, x, e)
	}
	if !slices.Equal(l, m.leaps) {
		t.Fatalf("New made %v of %v", l, m.leaps)
	}
	return x, m
}

// checkLabel holds one Label, and the Offset that goes with it.
func checkLabel(t *testing.T, x *leap.Table, at int64, offset int, inserted bool) {
	t.Helper()
	if got := x.Offset(at); got != offset {
		t.Fatalf("of %v: Offset(%d) = %d; want %d", x.List(), at, got, offset)
	}
	want := at - int64(offset)*second
	if got, is := x.Label(at); got != want || is != inserted {
		t.Fatalf("of %v: Label(%d) = %d, %t; want %d, %t", x.List(), at, got, is, want, inserted)
	}
}

// checkEven holds one Even.
func checkEven(t *testing.T, x *leap.Table, label int64, inserted bool, want int64, ok bool) {
	t.Helper()
	if got, is := x.Even(label, inserted); got != want || is != ok {
		t.Fatalf("of %v: Even(%d, %t) = %d, %t; want %d, %t", x.List(), label, inserted, got, is, want, ok)
	}
}

// checkNext holds one Next.
func checkNext(t *testing.T, x *leap.Table, at int64, want api.Leap, ok bool) {
	t.Helper()
	if got, is := x.Next(at); got != want || is != ok {
		t.Fatalf("of %v: Next(%d) = %v, %t; want %v, %t", x.List(), at, got, is, want, ok)
	}
}

// checkBits holds one Bits.
func checkBits(t *testing.T, x *leap.Table, at int64, want byte) {
	t.Helper()
	if got := x.Bits(at); got != want {
		t.Fatalf("of %v: Bits(%d) = %d; want %d", x.List(), at, got, want)
	}
}

// checkList holds the leaps that are told.
func checkList(t *testing.T, x *leap.Table, want []api.Leap) {
	t.Helper()
	if got := x.List(); !slices.Equal(got, want) {
		t.Fatalf("List() = %v; want %v", got, want)
	}
}

// checkModel holds a table against its model, at instants, and at their labels.
func checkModel(t *testing.T, x *leap.Table, m model, list ...int64) {
	t.Helper()
	for _, at := range list {
		label, inserted := m.label(at)
		checkLabel(t, x, at, m.stands(at).offset, inserted)
		y, ok := m.next(at)
		checkNext(t, x, at, y, ok)
		checkBits(t, x, at, m.bits(at))
		for _, is := range []bool{false, true} {
			for _, label := range []int64{at, label, label - second, label + second} {
				even, ok := m.even(label, is)
				checkEven(t, x, label, is, even, ok)
			}
		}
	}
	checkList(t, x, m.leaps)
}

// row is so many leaps of a Kind from At on, as near to each other as may be.
func row(at int64, many, kind int) []api.Leap {
	list := make([]api.Leap, many)
	for i := range list {
		list[i] = api.Leap{At: at + int64(i)*2*day, Kind: kind}
	}
	return list
}

// someKinds are kinds of so many leaps: all inserted, all left out, by turns, or of chance.
func someKinds(chance *rand.Rand, many int) []int {
	which := chance.IntN(4)
	kinds := make([]int, many)
	for i := range kinds {
		kinds[i] = []int{1, -1, 1 - i%2*2, 1 - chance.IntN(2)*2}[which]
	}
	return kinds
}

// someLeaps are so many leaps of chance: near to the beginning, near to MaxTime, as near to each other as may be, or far.
func someLeaps(chance *rand.Rand, many int) []api.Leap {
	list := make([]api.Leap, many)
	at := int64(day)
	for i, kind := range someKinds(chance, many) {
		at += []int64{0, 1, chance.Int64N(day), chance.Int64N(most / 40)}[chance.IntN(4)]
		list[i] = api.Leap{At: at, Kind: kind}
		at += 2 * day
	}
	if many == 0 || chance.IntN(2) == 0 {
		return list
	}
	// All of them are moved, so that the last one, or the second behind it, is near MaxTime.
	further := most - list[many-1].At - []int64{0, 1, second - 1, second, second + 1, chance.Int64N(2 * day)}[chance.IntN(6)]
	for i := range list {
		list[i].At += further
	}
	return list
}

// someExpires is an expires of chance: at an end, near one of the leaps, or anywhere.
func someExpires(chance *rand.Rand, l []api.Leap) int64 {
	if len(l) > 0 && chance.IntN(3) > 0 {
		y := l[chance.IntN(len(l))]
		return min(y.At+[]int64{-day - 1, -day, -day + 1, -chance.Int64N(day), -1, 0, 1, second}[chance.IntN(8)]+1, most)
	}
	return []int64{0, 1, most - 1, most, chance.Int64N(most)}[chance.IntN(5)]
}

// someBase is a base of chance.
func someBase(chance *rand.Rand) int {
	return []int{-1000, 1000, 0, 1, -1, chance.IntN(2001) - 1000}[chance.IntN(6)]
}

// someTable is a table of so many leaps of chance, and its model.
func someTable(t *testing.T, chance *rand.Rand, many int) (*leap.Table, model) {
	t.Helper()
	l := someLeaps(chance, many)
	return made(t, someExpires(chance, l), someBase(chance), l...)
}

// nearInstants are instants near the ends of all that a model tells apart.
func nearInstants(chance *rand.Rand, m model) []int64 {
	var list []int64
	for near := int64(-2); near <= 2; near++ {
		list = append(list, near, most+near, m.expires+near)
		for _, y := range m.leaps {
			list = append(list, y.At-day+near, y.At-second+near, y.At+near, y.At+second+near, y.At+day+near)
		}
	}
	for _, y := range m.leaps {
		list = append(list, y.At-chance.Int64N(day), y.At-chance.Int64N(second), y.At+chance.Int64N(second), y.At+chance.Int64N(day))
	}
	return append(list, someInstants(chance)...)
}

// fewInstants are some of those near the ends of all that a model tells apart; its Expires is always one of them.
func fewInstants(chance *rand.Rand, m model) []int64 {
	list := nearInstants(chance, m)
	chance.Shuffle(len(list), func(i, j int) { list[i], list[j] = list[j], list[i] })
	return append(list[:min(len(list), 50)], m.expires-1, m.expires)
}

// someInstants are instants of chance, below 0 and above MaxTime, too, but not so far that a label would be no int64.
func someInstants(chance *rand.Rand) []int64 {
	return []int64{
		math.MinInt64 + 1100*second, -most, -day, -chance.Int64N(most), -chance.Int64N(2000 * second), -second, second, day - 1, day,
		chance.Int64N(most), chance.Int64N(most) >> chance.IntN(62), most + chance.Int64N(most/2), math.MaxInt64 - 1100*second,
	}
}

// P16.1 to P16.4: the chapter's examples.
func TestExamples(t *testing.T) {
	x, _ := made(t, 9*day, 10, api.Leap{At: 2 * day, Kind: 1})
	if label, inserted := x.Label(2*day - 1); label != 2*day-10*second-1 || inserted {
		t.Errorf("Label(2 Days less 1) = %d, %t", label, inserted)
	}
	if label, inserted := x.Label(2 * day); label != 2*day-11*second || !inserted {
		t.Errorf("Label(2 Days) = %d, %t", label, inserted)
	}
	checkBits(t, x, day-1, 0)
	checkBits(t, x, day, 1)
	checkBits(t, x, 2*day, 0)
	checkBits(t, x, 9*day, 3)
	checkVote(t, []byte{1, 3, 1, 0}, 1, true)
	checkVote(t, []byte{1, 0}, 0, false)
}

// P16.1: the numbers that the rest is worked out from.
func TestNumbers(t *testing.T) {
	if smear.Day != day || api.MaxTime != most || api.Second != second || api.MaxLeaps != 32 {
		t.Errorf("Day %d, MaxTime %d, Second %d, MaxLeaps %d", int64(smear.Day), int64(api.MaxTime), int64(api.Second), int64(api.MaxLeaps))
	}
}

// checkNone holds all calls of a table that is none.
func checkNone(t *testing.T, x *leap.Table) {
	t.Helper()
	for _, n := range []int64{math.MinInt64, -most, -day, -1, 0, 1, second, day, most - 1, most, most + 1, math.MaxInt64} {
		if offset := x.Offset(n); offset != 0 {
			t.Errorf("of none: Offset(%d) = %d", n, offset)
		}
		if label, inserted := x.Label(n); label != 0 || inserted {
			t.Errorf("of none: Label(%d) = %d, %t", n, label, inserted)
		}
		checkEven(t, x, n, false, 0, false)
		checkEven(t, x, n, true, 0, false)
		checkNext(t, x, n, api.Leap{}, false)
		checkBits(t, x, n, 3)
	}
	for _, y := range append(row(day, 3, 1), api.Leap{}, api.Leap{At: -1, Kind: 3}) {
		for _, expires := range []int64{math.MinInt64, -1, 0, day, most, most + 1} {
			if e := x.Add(y, expires); e != api.ErrNil {
				t.Errorf("of none: Add(%v, %d) = %d", y, expires, e)
			}
		}
	}
	if other := x.Copy(); other != nil {
		t.Errorf("of none: Copy() = %p", other)
	}
	if list := x.List(); len(list) != 0 {
		t.Errorf("of none: List() = %v", list)
	}
}

// P16.1 to P16.3: none, and a table that New did not make: each call, and again behind the others.
func TestNotMade(t *testing.T) {
	var none *leap.Table
	var holder struct{ in leap.Table }
	refused, _ := leap.New(row(0, 1, 1), 0, 0)
	for _, x := range []*leap.Table{none, new(leap.Table), {}, &holder.in, none.Copy(), new(leap.Table).Copy(), refused} {
		for range 3 {
			checkNone(t, x)
		}
	}
}

// P16.1, P16.2: tables of no leap, of one, of two, and so on to 32, against their models.
func TestModel(t *testing.T) {
	chance := rand.New(rand.NewPCG(161, 1))
	for n := range 132 {
		x, m := someTable(t, chance, n%33)
		checkModel(t, x, m, nearInstants(chance, m)...)
	}
}
