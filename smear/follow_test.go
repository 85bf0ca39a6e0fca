package smear_test

import (
	"math/rand/v2"
	"slices"
	"testing"

	"ephemeris/api"
)

// someInstants are instants of a table of leaps: near the ends of their days, in them, between them, near 0 and MaxTime, in order.
func someInstants(chance *rand.Rand, l []api.Leap) []int64 {
	list := nearLeaps(chance, l)
	for near := range int64(4) {
		list = append(list, near, most-near, chance.Int64N(most+1), chance.Int64N(most+1)>>chance.IntN(62))
	}
	list = slices.DeleteFunc(list, func(at int64) bool { return at < 0 || at > most })
	slices.Sort(list)
	return list
}

// P15.5: the smeared time never goes back; over d it goes on by at least d less d Second / Day and 1, at most that much more: from one instant to the next, and to one of chance.
func TestNeverBack(t *testing.T) {
	chance := rand.New(rand.NewPCG(155, 1))
	slower, faster := 0, 0
	for n := range 400 {
		l := someLeaps(chance, n%33)
		x, _ := made(t, l...)
		list := someInstants(chance, l)
		for i, at := range list {
			for _, behind := range []int64{at, at + 1, list[min(i+1, len(list)-1)], list[i+chance.IntN(len(list)-i)], at + min(chance.Int64()>>chance.IntN(63), most-at)} {
				behind = counts(behind)
				d := behind - at
				went := x.To(behind) - x.To(at)
				if went < 0 || went < d-(d/pace+1) || went > d+d/pace+1 {
					t.Fatalf("of %v: from %d to %d it goes on by %d", l, at, behind, went)
				}
				if went < d {
					slower++
				}
				if went > d {
					faster++
				}
			}
		}
	}
	if slower < 10_000 || faster < 10_000 {
		t.Errorf("slower %d times, faster %d times", slower, faster)
	}
}

// P15.5: nanosecond by nanosecond, through the beginning, the middle and the end of a leap's day: it stands or goes on by two once in each 86400, else by one.
func TestOneByOne(t *testing.T) {
	for _, kind := range []int{1, -1} {
		const at = 10 * day
		x, _ := made(t, api.Leap{At: at, Kind: kind})
		for _, from := range []int64{at - halfDay - 100_000, at - 100_000, at + halfDay - 100_000} {
			odd := 0
			ahead := x.To(from)
			for n := from + 1; n <= from+200_000; n++ {
				now := x.To(n)
				went := now - ahead
				if went != 1 {
					odd++
				}
				if went != 1 && (went != int64(1-kind) || (n-at+halfDay)%pace != 0) {
					t.Fatalf("of Kind %d: from %d to the next it goes on by %d", kind, n-1, went)
				}
				ahead = now
			}
			if want := map[int64]int{at - halfDay - 100_000: 1, at - 100_000: 3, at + halfDay - 100_000: 2}[from]; odd != want {
				t.Errorf("of Kind %d: from %d on it goes on by no 1 %d times; want %d", kind, from, odd, want)
			}
		}
	}
}

// P15.5: below 0 and above MaxTime it stands.
func TestStands(t *testing.T) {
	chance := rand.New(rand.NewPCG(155, 2))
	for n := range 100 {
		x, _ := made(t, someLeaps(chance, n%33)...)
		for _, at := range ends() {
			if at < 0 && x.To(at) != x.To(0) || at > most && x.To(at) != x.To(most) {
				t.Fatalf("of %v: To(%d) = %d", x.List(), at, x.To(at))
			}
		}
	}
}

// P15.5: out of all leaps' days it goes on by d: ahead of them, between two of them, and behind them; from the end of a day on till the next begins.
func TestBetweenDays(t *testing.T) {
	chance := rand.New(rand.NewPCG(155, 3))
	for n := range 400 {
		l := someLeaps(chance, n%33)
		x, _ := made(t, l...)
		from := int64(0)
		for _, y := range append(l, api.Leap{At: most + halfDay}) {
			till := y.At - halfDay
			if from > till {
				continue // the last day ends above MaxTime
			}
			for range 20 {
				at := from + chance.Int64N(till-from+1)
				behind := at + chance.Int64N(till-at+1)
				if went := x.To(behind) - x.To(at); went != behind-at {
					t.Fatalf("of %v: from %d to %d it goes on by %d", l, at, behind, went)
				}
			}
			if went := x.To(till) - x.To(from); went != till-from {
				t.Fatalf("of %v: from %d to %d it goes on by %d", l, from, till, went)
			}
			from = y.At + halfDay
		}
	}
}

// P15.5: over a leap's whole day it goes on by a Day less its Kind's second.
func TestWholeDays(t *testing.T) {
	chance := rand.New(rand.NewPCG(155, 4))
	for n := range 100 {
		l := someLeaps(chance, n%33)
		x, _ := made(t, l...)
		for _, y := range l {
			if y.At > most-halfDay {
				continue
			}
			if went := x.To(y.At+halfDay) - x.To(y.At-halfDay); went != day-int64(y.Kind)*second {
				t.Fatalf("of %v: over the day of %v it goes on by %d", l, y, went)
			}
		}
	}
}

// P15.6: To of what Back tells is at least s, at most 1 above, of each s from 0 to the smeared time of MaxTime; below 0 the instant 0 is told.
func TestToOfBack(t *testing.T) {
	chance := rand.New(rand.NewPCG(156, 1))
	just, above := 0, 0
	for n := range 150 {
		l := ofKinds(someLeaps(chance, n/3%33), n%3)
		x, _ := made(t, l...)
		for _, near := range someInstants(chance, l) {
			s := max(0, min(x.To(near)+chance.Int64N(5)-2, x.To(most)))
			at, ok := x.Back(s)
			if !ok {
				t.Fatalf("of %v: Back(%d) tells none", l, s)
			}
			switch x.To(at) - s {
			case 0:
				just++
			case 1:
				above++
			default:
				t.Fatalf("of %v: Back(%d) = %d, To of which is %d", l, s, at, x.To(at))
			}
			checkBack(t, x, -1-s, 0, true)
		}
	}
	if just < 10_000 || above < 100 {
		t.Errorf("just it %d times, one above %d times", just, above)
	}
}

// P15.6: Back of a smeared time is not behind the instant, and is one that has the same; it is the instant itself, but where the one ahead has the same.
func TestBackOfTo(t *testing.T) {
	chance := rand.New(rand.NewPCG(156, 2))
	same, ahead := 0, 0
	for n := range 150 {
		l := ofKinds(someLeaps(chance, n/3%33), n%3)
		x, _ := made(t, l...)
		for _, at := range someInstants(chance, l) {
			got, ok := x.Back(x.To(at))
			if !ok || got > at || x.To(got) != x.To(at) {
				t.Fatalf("of %v: Back of To(%d) = %d, %t", l, at, got, ok)
			}
			switch at - got {
			case 0:
				same++
			case 1:
				ahead++
			default:
				t.Fatalf("of %v: Back of To(%d) = %d", l, at, got)
			}
		}
	}
	if same < 10_000 || ahead < 100 {
		t.Errorf("the same %d times, the one ahead %d times", same, ahead)
	}
}
