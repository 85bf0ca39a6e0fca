package smear_test

import (
	"math"
	"math/rand/v2"
	"slices"
	"testing"

	"ephemeris/api"
	"ephemeris/smear"
)

const (
	most    = 4_611_686_018_427_387_904 // MaxTime
	second  = 1_000_000_000
	day     = 86_400_000_000_000
	halfDay = 43_200_000_000_000
	pace    = 86_400 // so many nanoseconds of a leap's day take one
)

// model is leaps; what a table of them has to tell is worked out without a search and without wide products.
type model []api.Leap

// counts is the instant that a number counts as.
func counts(t int64) int64 {
	switch {
	case t < 0:
		return 0
	case t > most:
		return most
	}
	return t
}

// taken is what Taken has to tell.
func (m model) taken(t int64) int64 {
	t = counts(t)
	total := int64(0)
	for _, y := range m {
		switch {
		case t <= y.At-halfDay:
		case t >= y.At+halfDay:
			total += int64(y.Kind) * second
		default:
			total += int64(y.Kind) * ((t - y.At + halfDay) / pace)
		}
	}
	return total
}

// to is what To has to tell.
func (m model) to(t int64) int64 { return counts(t) - m.taken(t) }

// within is what Within has to tell.
func (m model) within(t int64) (int, bool) {
	t = counts(t)
	for place, y := range m {
		if y.At-halfDay <= t && t < y.At+halfDay {
			return place, true
		}
	}
	return 0, false
}

// back is what Back has to tell: it goes through the stretches between days, and through the days.
func (m model) back(s int64) (int64, bool) {
	if s <= 0 {
		return 0, true
	}
	if s > m.to(most) {
		return 0, false
	}
	taken := int64(0)
	for _, y := range m {
		begin := y.At - halfDay
		if s <= begin-taken {
			return s + taken, true
		}
		end := y.At + halfDay - taken - int64(y.Kind)*second
		if s <= end {
			return begin + into(s-begin+taken, y.Kind), true
		}
		taken += int64(y.Kind) * second
	}
	return s + taken, true
}

// into is the least number of nanoseconds into a leap's day behind which the smeared time has gone on by n or more, of an n above 0.
func into(n int64, kind int) int64 {
	if kind == 1 {
		return n + (n-1)/(pace-1)
	}
	return n - n/(pace+1)
}

// made is a new table of leaps that may be, which New does not change.
func made(t *testing.T, l ...api.Leap) (*smear.Table, model) {
	t.Helper()
	m := model(slices.Clone(l))
	x, e := smear.New(l)
	if x == nil || e != api.OK {
		t.Fatalf("New(%v) = %p, %d", l, x, e)
	}
	if !slices.Equal(l, m) {
		t.Fatalf("New made %v of %v", l, m)
	}
	return x, m
}

// checkList holds the leaps that are told.
func checkList(t *testing.T, x *smear.Table, m model) {
	t.Helper()
	if got := x.List(); !slices.Equal(got, m) {
		t.Fatalf("List() = %v; want %v", got, m)
	}
}

// checkTaken holds one Taken, and the To that goes with it.
func checkTaken(t *testing.T, x *smear.Table, at, want int64) {
	t.Helper()
	if got := x.Taken(at); got != want {
		t.Fatalf("of %v: Taken(%d) = %d; want %d", x.List(), at, got, want)
	}
	if got := x.To(at); got != counts(at)-want {
		t.Fatalf("of %v: To(%d) = %d; want %d", x.List(), at, got, counts(at)-want)
	}
}

// checkBack holds one Back.
func checkBack(t *testing.T, x *smear.Table, s, want int64, ok bool) {
	t.Helper()
	if got, gotten := x.Back(s); got != want || gotten != ok {
		t.Fatalf("of %v: Back(%d) = %d, %t; want %d, %t", x.List(), s, got, gotten, want, ok)
	}
}

// checkWithin holds one Within.
func checkWithin(t *testing.T, x *smear.Table, at int64, want int, ok bool) {
	t.Helper()
	if got, gotten := x.Within(at); got != want || gotten != ok {
		t.Fatalf("of %v: Within(%d) = %d, %t; want %d, %t", x.List(), at, got, gotten, want, ok)
	}
}

// checkModel holds a table against its model, at instants and smeared times.
func checkModel(t *testing.T, x *smear.Table, m model, list ...int64) {
	t.Helper()
	for _, n := range list {
		checkTaken(t, x, n, m.taken(n))
		s, ok := m.back(n)
		checkBack(t, x, n, s, ok)
		place, ok := m.within(n)
		checkWithin(t, x, n, place, ok)
	}
	checkList(t, x, m)
}

// someKinds are kinds of so many leaps: all inserted, all left out, by turns, or of chance.
func someKinds(chance *rand.Rand, many int) []int {
	which := chance.IntN(4)
	kinds := make([]int, many)
	for i := range kinds {
		kinds[i] = []int{1, -1, 1 - i%2*2, 1 - chance.IntN(2)*2}[which]
	}
	return kinds
}

// someLeaps are so many leaps of chance: near to the beginning, near to MaxTime, as near to each other as may be, or far.
func someLeaps(chance *rand.Rand, many int) []api.Leap {
	list := make([]api.Leap, many)
	at := int64(day)
	for i, kind := range someKinds(chance, many) {
		at += []int64{0, 1, chance.Int64N(day), chance.Int64N(most / 40)}[chance.IntN(4)]
		list[i] = api.Leap{At: at, Kind: kind}
		at += 2 * day
	}
	if many == 0 || chance.IntN(2) == 0 {
		return list
	}
	// All of them are moved, so that the last day ends near MaxTime, or above it.
	further := most - list[many-1].At - []int64{0, 1, halfDay - 1, halfDay, halfDay + 1, chance.Int64N(2 * day)}[chance.IntN(6)]
	for i := range list {
		list[i].At += further
	}
	return list
}

// ends are numbers at the ends of all instants and of what an int64 holds, and some within.
func ends() []int64 {
	return []int64{
		math.MinInt64, math.MinInt64 + 1, math.MinInt64 + day, -most - 1, -most, -day, -second, -2, -1, 0, 1, 2, second, halfDay - 1, halfDay, day - 1, day,
		most / 2, most - day, most - 33*second, most - 2, most - 1, most, most + 1, most + 2, most + second, most + 33*second, most + halfDay - 1, most + halfDay,
		most + day, math.MaxInt64 - day, math.MaxInt64 - second, math.MaxInt64 - 1, math.MaxInt64,
	}
}

// nearLeaps are instants near the ends and the middle of each leap's day, and near those at which one more is taken.
func nearLeaps(chance *rand.Rand, l []api.Leap) []int64 {
	var list []int64
	for _, y := range l {
		turn := y.At - halfDay + pace*chance.Int64N(second)
		for near := int64(-2); near <= 2; near++ {
			list = append(list, y.At-halfDay+near, y.At-halfDay+pace+near, turn+near, y.At+near, y.At+halfDay-pace+near, y.At+halfDay+near)
		}
		list = append(list, y.At-day, y.At+day, y.At-halfDay+chance.Int64N(day))
	}
	return list
}

// P15.1 to P15.4: the chapter's examples.
func TestExamples(t *testing.T) {
	x, _ := made(t, api.Leap{At: 10 * day, Kind: 1})
	checkTaken(t, x, 9*day, 0)
	checkTaken(t, x, 10*day, 500_000_000)
	checkTaken(t, x, 11*day, second)
	if got := x.To(10 * day); got != 10*day-500_000_000 {
		t.Errorf("To(10 Days) = %d", got)
	}
	checkWithin(t, x, 10*day, 0, true)
	if x, e := smear.New([]api.Leap{{At: 10 * day, Kind: 1}, {At: 11 * day, Kind: 1}}); x != nil || e != api.ErrArg {
		t.Errorf("New of leaps at 10 and 11 Days: %p, %d", x, e)
	}
}

// P15.1: the numbers that the rest is worked out from.
func TestNumbers(t *testing.T) {
	if smear.Day != day || 24*3600*second != day {
		t.Errorf("Day %d", int64(smear.Day))
	}
	if api.MaxTime != most || api.Second != second || api.MaxLeaps != 32 {
		t.Errorf("MaxTime %d, Second %d, MaxLeaps %d", int64(api.MaxTime), int64(api.Second), int64(api.MaxLeaps))
	}
}

// P15.1 to P15.4: none, and a table that New did not make: each call as if there were no leap, and again behind the others.
func TestNotMade(t *testing.T) {
	var none *smear.Table
	var holder struct{ in smear.Table }
	for _, x := range []*smear.Table{none, new(smear.Table), {}, &holder.in} {
		for range 3 {
			for _, n := range ends() {
				checkTaken(t, x, n, 0)
				checkWithin(t, x, n, 0, false)
				if n > most {
					checkBack(t, x, n, 0, false)
				} else {
					checkBack(t, x, n, counts(n), true)
				}
			}
			if list := x.List(); len(list) != 0 {
				t.Errorf("the leaps of none: %v", list)
			}
		}
	}
}

// P15.1 to P15.4: tables of no leap, of one, of two, and so on to 32, against their models.
func TestModel(t *testing.T) {
	chance := rand.New(rand.NewPCG(151, 1))
	for n := range 165 {
		l := someLeaps(chance, n%33)
		x, m := made(t, l...)
		checkModel(t, x, m, nearLeaps(chance, l)...)
		checkModel(t, x, m, ends()...)
	}
}
