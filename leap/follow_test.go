package leap_test

import (
	"cmp"
	"math/rand/v2"
	"slices"
	"testing"

	"ephemeris/api"
)

// someWithin are instants of a model from 0 to MaxTime, near the ends of all that it tells apart and of chance, rising, none twice.
func someWithin(chance *rand.Rand, m model) []int64 {
	list := nearInstants(chance, m)
	for range 20 {
		list = append(list, chance.Int64N(most+1))
	}
	list = slices.DeleteFunc(list, func(at int64) bool { return at < 0 || at > most })
	slices.Sort(list)
	return slices.Compact(list)
}

// P16.5: Even of what Label tells is the instant.
func TestEvenOfLabel(t *testing.T) {
	chance := rand.New(rand.NewPCG(165, 1))
	among := map[bool]int{}
	for n := range 400 {
		x, m := someTable(t, chance, n%33)
		for _, at := range someWithin(chance, m) {
			label, inserted := x.Label(at)
			checkEven(t, x, label, inserted, at, true)
			among[inserted]++
		}
	}
	if among[true] < 5000 || among[false] < 50_000 {
		t.Errorf("inserted or not: %v", among)
	}
}

// P16.5: Label of what Even tells is the label, and so inserted.
func TestLabelOfEven(t *testing.T) {
	chance := rand.New(rand.NewPCG(165, 2))
	among := map[bool]int{}
	for n := range 400 {
		x, m := someTable(t, chance, n%33)
		for _, near := range someWithin(chance, m) {
			label := near - int64(m.base)*second + chance.Int64N(80*second) - 40*second
			for _, inserted := range []bool{false, true} {
				at, ok := x.Even(label, inserted)
				if !ok {
					continue
				}
				if got, is := x.Label(at); got != label || is != inserted || at < 0 || at > most {
					t.Fatalf("of %v: Even(%d, %t) = %d, Label of which is %d, %t", m, label, inserted, at, got, is)
				}
				among[inserted]++
			}
		}
	}
	if among[true] < 500 || among[false] < 50_000 {
		t.Errorf("inserted or not: %v", among)
	}
}

// P16.5: of instants that are not inserted the later one has the greater label; no two have one label, neither of those that are inserted.
func TestOneLabel(t *testing.T) {
	type told struct{ at, label int64 }
	chance := rand.New(rand.NewPCG(165, 3))
	for n := range 400 {
		x, m := someTable(t, chance, n%33)
		among := map[bool][]told{}
		for _, at := range someWithin(chance, m) {
			label, inserted := x.Label(at)
			among[inserted] = append(among[inserted], told{at, label})
		}
		for inserted, list := range among {
			if inserted {
				slices.SortFunc(list, func(a, b told) int { return cmp.Compare(a.label, b.label) })
			}
			for i := 1; i < len(list); i++ {
				if list[i].label <= list[i-1].label {
					t.Fatalf("of %v: the label of %d is %d, that of %d is %d; inserted: %t", m, list[i-1].at, list[i-1].label, list[i].at, list[i].label, inserted)
				}
			}
		}
	}
}

// P16.5: nanosecond by nanosecond round all ends: each label once among the inserted ones, and once among the others.
func TestOneByOne(t *testing.T) {
	for _, kind := range []int{1, -1} {
		const at = 10 * day
		x, _ := made(t, most, 3, api.Leap{At: at, Kind: kind}, api.Leap{At: at + 2*day, Kind: -kind})
		seen := map[bool]map[int64]int64{true: {}, false: {}}
		for _, from := range []int64{0, at - second - 50, at - 50, at + second - 50, at + 2*day - second - 50, at + 2*day - 50, at + 2*day + second - 50, most - 99} {
			last := int64(-day)
			for now := from; now < from+100; now++ {
				label, inserted := x.Label(now)
				if other, is := seen[inserted][label]; is {
					t.Fatalf("of Kind %d: %d and %d have the label %d, inserted: %t", kind, other, now, label, inserted)
				}
				seen[inserted][label] = now
				if !inserted && label <= last {
					t.Fatalf("of Kind %d: the label of %d is %d, behind %d", kind, now, label, last)
				}
				if !inserted {
					last = label
				}
				checkEven(t, x, label, inserted, now, true)
			}
		}
		if len(seen[true]) != 100 || len(seen[false]) != 700 {
			t.Errorf("of Kind %d: %d inserted, %d not", kind, len(seen[true]), len(seen[false]))
		}
	}
}

// P16.6: the offset changes at leaps alone, by their Kind; it is the base ahead of all of them.
func TestChanges(t *testing.T) {
	chance := rand.New(rand.NewPCG(166, 1))
	for n := range 300 {
		x, m := someTable(t, chance, n%33)
		if got := x.Offset(0); got != m.base {
			t.Fatalf("of %v: Offset(0) = %d", m, got)
		}
		from := int64(0)
		for _, y := range append(slices.Clone(m.leaps), api.Leap{At: most + 1}) {
			want := x.Offset(from)
			for _, at := range []int64{from, from + (y.At-from)/2, from + chance.Int64N(y.At-from), min(from+second, y.At-1), y.At - 1} {
				if got := x.Offset(at); got != want {
					t.Fatalf("of %v: Offset(%d) = %d, Offset(%d) = %d", m, from, want, at, got)
				}
			}
			if changed := x.Offset(y.At) - x.Offset(y.At-1); changed != y.Kind {
				t.Fatalf("of %v: at %v the offset changes by %d", m, y, changed)
			}
			from = y.At
		}
	}
}

// P16.6: a second behind a leap of Kind 1 the label is what it was at it, and a second; it is that of the second's end ahead of it, and one.
func TestSecondBehind(t *testing.T) {
	chance := rand.New(rand.NewPCG(166, 2))
	leaps := 0
	for n := range 300 {
		x, m := someTable(t, chance, n%33)
		for _, y := range m.leaps {
			if y.Kind != 1 {
				continue
			}
			ahead, before := x.Label(y.At - 1)
			at, inserted := x.Label(y.At)
			end, still := x.Label(y.At + second - 1)
			behind, again := x.Label(y.At + second)
			if before || !inserted || !still || again {
				t.Fatalf("of %v: at %v inserted: %t, %t, %t, %t", m, y, before, inserted, still, again)
			}
			if behind != at+second || end != ahead || behind != ahead+1 {
				t.Fatalf("of %v: at %v the labels are %d, %d, %d, %d", m, y, ahead, at, end, behind)
			}
			leaps++
		}
	}
	if leaps < 1000 {
		t.Errorf("%d leaps of Kind 1", leaps)
	}
}
