package poll_test

import (
	"math"
	"testing"

	"ephemeris/api"
)

// P17.4: which exponents may be; of one that may not nothing changes.
func TestRateBounds(t *testing.T) {
	for _, text := range []string{"", "s", "ggggggg", "s8sss", "s88sbggg"} {
		for _, least := range []int{math.MinInt, math.MinInt32, -7, -4, -1, 0, 1, 3, 11, 12, 256 + 7, 1<<32 + 7, 1<<63 - 1 - 248, math.MaxInt32, math.MaxInt} {
			p := pairOf(t, 4, 8, 100)
			p.play(t, text)
			before := *p.x
			if e := p.rate(t, least); e != api.ErrArg || *p.x != before {
				t.Fatalf("behind %q: Rate(%d) = %d: %v; was %v", text, least, e, *p.x, before)
			}
			p.checkFuture(t)
		}
		for least := 4; least <= 10; least++ {
			p := pairOf(t, 4, 8, 100)
			p.play(t, text)
			if e := p.rate(t, least); e != api.OK {
				t.Fatalf("behind %q: Rate(%d) = %d", text, least, e)
			}
			p.checkFuture(t)
		}
	}
}

// demand is what is played ahead of a Rate, and what it has to make of it: the exponent, the floor, and when it asks next.
type demand struct {
	ahead           string
	least           int
	exponent, floor int
	next            int64
}

// checkDemands holds a Rate each, of polls of exponents from 4 to 6 that ask at 100.
func checkDemands(t *testing.T, list []demand) {
	t.Helper()
	for _, way := range list {
		x := made(t, 4, 6, 100)
		play(t, x, way.ahead)
		reach := x.Reach()
		checkErrno(t, "Rate", x.Rate(way.least), api.OK)
		if next, ok := x.Next(); x.Exponent() != way.exponent || x.Floor() != way.floor || next != way.next || !ok {
			t.Errorf("behind %q and Rate(%d): %d, %d, %d; want %d, %d, %d", way.ahead, way.least, x.Exponent(), x.Floor(), next, way.exponent, way.floor, way.next)
		}
		checkHolds(t, x, reach, way.exponent, way.floor, way.next)
	}
}

// P17.4: by hand, ahead of any request: it asks when it did, with answers and without.
func TestRateAhead(t *testing.T) {
	checkDemands(t, []demand{
		{"", 4, 4, 4, 100}, {"", 5, 5, 5, 100}, {"", 6, 6, 6, 100}, {"", 7, 7, 7, 100}, {"", 8, 8, 8, 100}, {"", 9, 9, 9, 100}, {"", 10, 10, 10, 100},
		{"8", 4, 5, 4, 100}, {"8", 5, 5, 5, 100}, {"8", 6, 6, 6, 100}, {"8", 10, 10, 10, 100}, {"88", 4, 6, 4, 100}, {"88", 5, 6, 5, 100}, {"88", 6, 6, 6, 100}, {"88", 7, 7, 7, 100},
	})
}

// P17.4: by hand, behind a request at 100, that was sent when it was due; s is sent at 16 seconds and 100 again, or later, of a greater exponent.
func TestRateBehind(t *testing.T) {
	const s = second
	checkDemands(t, []demand{
		{"s", 4, 4, 4, 16*s + 100}, {"s", 5, 5, 5, 32*s + 100}, {"s", 6, 6, 6, 64*s + 100}, {"s", 7, 7, 7, 128*s + 100}, {"s", 8, 8, 8, 256*s + 100}, {"s", 9, 9, 9, 512*s + 100}, {"s", 10, 10, 10, 1024*s + 100},
		{"ss", 4, 4, 4, 32*s + 100}, {"ss", 5, 5, 5, 48*s + 100}, {"ss", 10, 10, 10, 1040*s + 100}, {"sgsg", 6, 6, 6, 80*s + 100}, {"8s", 4, 5, 4, 32*s + 100}, {"8s", 5, 5, 5, 32*s + 100}, {"8s", 6, 6, 6, 64*s + 100},
		{"88s", 4, 6, 4, 64*s + 100}, {"88s", 5, 6, 5, 64*s + 100}, {"88s", 6, 6, 6, 64*s + 100}, {"88s", 7, 7, 7, 128*s + 100},
		{"88sb", 4, 5, 4, 64*s + 100}, {"88sb", 5, 5, 5, 64*s + 100}, {"88sb", 6, 6, 6, 64*s + 100}, {"88sb", 7, 7, 7, 128*s + 100}, // it would ask later than that anyway
		{"88sbb", 4, 4, 4, 64*s + 100}, {"88sbb", 5, 5, 5, 64*s + 100}, {"88sbb", 6, 6, 6, 64*s + 100}, {"88sbb", 8, 8, 8, 256*s + 100},
		{"s8", 4, 5, 4, 32*s + 100}, {"s8", 5, 5, 5, 32*s + 100}, {"s8", 6, 6, 6, 64*s + 100}, {"s88", 4, 6, 4, 64*s + 100}, {"s88", 7, 7, 7, 128*s + 100}, // by the exponent, that went up since
		{"8ssss", 4, 4, 4, 112*s + 100}, {"8ssss", 5, 5, 5, 128*s + 100}, // three of 32 seconds, and a silence
	})
}

// P17.4: by hand, behind a request that was sent later than it was due, ahead of that, at 0, at MaxTime, and ahead of the last one: it counts by the last one.
func TestRateByTheLast(t *testing.T) {
	for _, now := range []int64{0, 1, 99, 100, 101, 5000, 3600 * second, most - 1, most} {
		x := made(t, 4, 6, 100)
		send(t, x, now)
		checkErrno(t, "Rate", x.Rate(8), api.OK)
		checkHolds(t, x, 0, 8, 8, now+256*second)
		send(t, x, 50)
		checkHolds(t, x, 0, 8, 8, 50+256*second)
		checkErrno(t, "Rate", x.Rate(9), api.OK)
		checkHolds(t, x, 0, 9, 9, 50+512*second)
		checkErrno(t, "Rate", x.Rate(10), api.OK)
		checkHolds(t, x, 0, 10, 10, 50+1024*second)
	}
	x := made(t, 4, 6, 2000*second)
	send(t, x, 0)
	checkErrno(t, "Rate", x.Rate(10), api.OK)
	checkHolds(t, x, 0, 10, 10, 1024*second)
}

// P17.4: by hand, more than one Rate: a lesser one takes nothing back.
func TestRateTwice(t *testing.T) {
	x := made(t, 4, 6, 100)
	send(t, x, 100)
	for _, way := range []struct {
		least, told int
		next        int64
	}{{5, 5, 32*second + 100}, {4, 5, 32*second + 100}, {5, 5, 32*second + 100}, {8, 8, 256*second + 100}, {6, 8, 256*second + 100}, {4, 8, 256*second + 100}, {10, 10, 1024*second + 100}, {4, 10, 1024*second + 100}} {
		checkErrno(t, "Rate", x.Rate(way.least), api.OK)
		checkHolds(t, x, 0, way.told, way.told, way.next)
	}
}

// P17.4: by hand, what comes behind a Rate: up to the greatest exponent, which is at least that, and down to the floor; a row of good answers begins anew.
func TestBehindRate(t *testing.T) {
	for _, way := range []struct {
		least, greatest int
		ahead           string
		rate            int
		behind          string
		exponent        int
	}{
		{4, 6, "", 5, "8", 6}, {4, 6, "", 5, "88", 6}, {4, 6, "", 6, "8", 6}, {4, 6, "", 7, "8", 7}, {4, 6, "", 8, "888", 8}, {4, 9, "", 8, "8", 9}, {4, 9, "", 8, "88", 9}, {4, 4, "", 10, "8", 10}, {4, 4, "", 5, "8", 5},
		{4, 6, "", 5, "b", 5}, {4, 6, "", 5, "8bb", 5}, {4, 6, "", 5, "8b", 5}, {4, 6, "", 8, "b", 8}, {4, 6, "", 10, "bbbbbbb", 10}, {4, 8, "8888", 6, "b", 7}, {4, 8, "8888", 6, "bb", 6}, {4, 8, "8888", 6, "bbbbb", 6}, {4, 8, "8888", 4, "bbbbb", 4},
		{4, 6, "ggggggg", 4, "g", 4}, {4, 6, "ggggggg", 4, "ggggggg", 4}, {4, 6, "ggggggg", 4, "gggggggg", 5}, {4, 6, "8ggggggg", 4, "g", 5}, {4, 6, "8ggggggg", 4, "8", 6}, {4, 8, "8ggggggg", 6, "ggggggg", 6}, {4, 8, "8ggggggg", 6, "8", 7},
		{4, 8, "8888", 6, "ssss", 6}, {4, 8, "8888", 6, "sss", 8}, {4, 8, "8888sss", 6, "s", 6}, {4, 8, "8888ss", 6, "s", 8}, {4, 6, "", 8, "ssssss", 8}, {4, 8, "8888sss", 6, "bs", 7}, {4, 8, "8888sss", 6, "gs", 8},
		{6, 8, "", 4, "b", 6}, {6, 8, "8", 5, "bb", 6}, {6, 8, "", 4, "888", 8},
	} {
		x := made(t, way.least, way.greatest, 100)
		play(t, x, way.ahead)
		checkErrno(t, "Rate", x.Rate(way.rate), api.OK)
		play(t, x, way.behind)
		if got, floor := x.Exponent(), x.Floor(); got != way.exponent || floor != max(way.least, way.rate) {
			t.Errorf("of %d, %d behind %q, Rate(%d) and %q: %d, floor %d; want %d", way.least, way.greatest, way.ahead, way.rate, way.behind, got, floor, way.exponent)
		}
	}
}

// P17.4: Rate leaves the register, and who is silent; the next request goes by the exponent that there is.
func TestRateLeaves(t *testing.T) {
	x := made(t, 4, 6, 0)
	play(t, x, "sgssg")
	send(t, x, 100*second)
	checkErrno(t, "Rate", x.Rate(7), api.OK)
	checkHolds(t, x, 0b1010, 7, 7, 228*second)
	send(t, x, 228*second)
	checkHolds(t, x, 0b10100, 7, 7, 356*second)
	answer(t, x, true, 1)
	checkHolds(t, x, 0b10101, 7, 7, 356*second)
}
