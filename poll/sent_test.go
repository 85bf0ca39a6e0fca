package poll_test

import (
	"math"
	"strings"
	"testing"

	"ephemeris/api"
)

// P17.2: Due around when it asks, right behind New, behind a request, and at the ends of what an int64 holds.
func TestDue(t *testing.T) {
	for _, first := range []int64{0, 1, 100, 5 * second, most - 1, most} {
		x := made(t, 4, 6, first)
		checkDue(t, x, first-1, false)
		checkDue(t, x, first, true)
		checkDue(t, x, first+1, true)
		checkDue(t, x, most, true)
		checkDue(t, x, most+1, true)
		checkDue(t, x, math.MaxInt64, true)
		checkDue(t, x, -1, false)
		checkDue(t, x, math.MinInt64, false)
		send(t, x, first)
		for _, now := range []int64{first, first + 16*second - 1} {
			checkDue(t, x, now, false)
		}
		for _, now := range []int64{first + 16*second, first + 16*second + 1, math.MaxInt64} {
			checkDue(t, x, now, true)
		}
		for range 2 { // to ask changes nothing
			checkHolds(t, x, 0, 4, 4, first+16*second)
		}
		checkErrno(t, "Stop", x.Stop(), api.OK)
		for _, now := range []int64{math.MinInt64, -1, first, first + 16*second, most + 1, math.MaxInt64} {
			checkDue(t, x, now, false)
		}
	}
}

// P17.2: behind a request at or near MaxTime it asks above MaxTime.
func TestDueAboveMaxTime(t *testing.T) {
	x := made(t, 10, 10, most)
	send(t, x, most)
	checkHolds(t, x, 0, 10, 10, most+1024*second)
	checkDue(t, x, most, false)
	checkDue(t, x, most+1024*second-1, false)
	checkDue(t, x, most+1024*second, true)
}

// P17.2: by hand, when it asks next, of each exponent.
func TestSentByHand(t *testing.T) {
	for _, way := range []struct {
		exponent int
		pace     int64
	}{
		{4, 16_000_000_000}, {5, 32_000_000_000}, {6, 64_000_000_000}, {7, 128_000_000_000}, {8, 256_000_000_000}, {9, 512_000_000_000}, {10, 1_024_000_000_000},
	} {
		for _, now := range []int64{0, 1, 99, 100, 101, second, most - 1, most} {
			x := made(t, way.exponent, 10, 100)
			send(t, x, now)
			checkHolds(t, x, 0, way.exponent, way.exponent, now+way.pace)
		}
	}
}

// P17.2: which times may be; of one that may not nothing changes.
func TestSentBounds(t *testing.T) {
	for _, text := range []string{"", "s", "sg", "s8sss", "sgggggggs"} {
		for _, now := range []int64{-1, most + 1, math.MinInt64, math.MaxInt64, -second, most + 16*second} {
			p := pairOf(t, 4, 8, 100)
			p.play(t, text)
			before := *p.x
			if e := p.sent(t, now); e != api.ErrArg || *p.x != before {
				t.Fatalf("behind %q: Sent(%d) = %d: %v; was %v", text, now, e, *p.x, before)
			}
			p.checkFuture(t)
		}
	}
}

// P17.2: a request that is sent ahead of when it asks, when it asks, behind that, and ahead of the last one: it asks next by it alone.
func TestSentAnyTime(t *testing.T) {
	for _, now := range []int64{0, 99, 100, 101, 16*second + 99, 16*second + 100, 16*second + 101, 5000 * second, most} {
		x := made(t, 4, 6, 100)
		send(t, x, 100, now)
		checkHolds(t, x, 0, 4, 4, now+16*second)
		send(t, x, 7)
		checkHolds(t, x, 0, 4, 4, 7+16*second)
	}
	x := made(t, 4, 6, most)
	send(t, x, 0)
	checkHolds(t, x, 0, 4, 4, 16*second)
}

// P17.2, P17.3: the register, by hand, of requests: x is one that was answered, b one by an answer that was not good, d one that was answered twice, . one that was not; e is an answer without one.
func TestRegisterByHand(t *testing.T) {
	for _, way := range []struct {
		text  string
		reach byte
	}{
		{"", 0}, {".", 0}, {"..", 0}, {"........", 0}, {".........", 0},
		{"x", 0b1}, {"b", 0b1}, {"d", 0b1}, {"x.", 0b10}, {"b.", 0b10}, {"d.", 0b10}, {".x", 0b1}, {"xx", 0b11}, {"xb", 0b11}, {"x..x", 0b1001}, {"d..d", 0b1001},
		{"x......", 0b1000000}, {"x.......", 0b10000000}, {"x........", 0}, {"b.......", 0b10000000}, {"b........", 0}, {"d.......", 0b10000000}, {"d........", 0},
		{".x.......", 0b10000000}, {".x........", 0}, {"xxxxxxx", 0b1111111}, {"xxxxxxxx", 0b11111111}, {"xxxxxxxxx", 0b11111111}, {"xxxxxxxx.", 0b11111110},
		{"xxxxxxxxx........", 0}, {"xxxxxxxxx.......", 0b10000000}, {"x.x.x.x.", 0b10101010}, {"x.x.x.x.x", 0b01010101}, {".x.x.x.x.x.x.x", 0b01010101}, {"bbbbbbbbbb", 0b11111111},
		{"e", 0b1}, {"ee", 0b1}, {"e.", 0b10}, {"ex", 0b11}, {"e.......", 0b10000000}, {"e........", 0}, {"e.x", 0b101},
	} {
		x := made(t, 4, 4, 0)
		for _, c := range way.text {
			play(t, x, map[rune]string{'x': "sg", 'b': "sb", 'd': "sgg", '.': "s", 'e': "g"}[c])
		}
		if got := x.Reach(); got != way.reach {
			t.Errorf("behind %q: %08b; want %08b", way.text, got, way.reach)
		}
	}
}

// silences are what is played, and the exponent behind each of its requests (of one figure each, in order).
var silences = []struct{ text, exponents string }{
	{"ssssss", "444444"},     // at the floor it stays there
	{"8ssssss", "555444"},    // the fourth one is the first that has three behind it
	{"88ssssss", "666444"},   // to the floor at once, not one by one
	{"8888ssssss", "888444"}, // from the greatest one too
	{"8sgsssss", "555544"},
	{"8ssgssss", "555554"}, {"8ssgsssss", "5555544"}, {"8sssgsssss", "55555544"}, {"8sssgs", "5555"}, {"8sssgss", "55555"}, {"8sssgsss", "555555"}, {"8sssgssss", "5555554"},
	{"8sgsgsgssss", "5555554"}, {"8sgsgsgsss", "555555"}, // only an earlier one was answered; the eldest of the last three was
	{"8sgssgssgss", "5555555"}, {"8ssgssgssgssg", "55555555"},
	{"88sbsssss", "655544"}, {"88ssbsss", "66555"}, {"88ssbssss", "665554"}, // one that was not good is an answer
	{"8ssss8s", "55545"}, {"8ssss8ssss", "55545554"}, {"8ssss8sss", "5554555"}, // up again, and silent again
	{"s8ssss", "45554"}, {"s8sss", "4555"}, {"ss8ssss", "445554"}, {"sss8ssss", "4445554"}, {"ssss8ssss", "44445554"}, {"sssss8sss", "44444555"},
}

// P17.2: by hand, who is silent: the first, second, third and fourth request without an answer, behind ones that were answered, and with an exponent at the floor and above it; that it asks next by the exponent that it has then.
func TestSilenceByHand(t *testing.T) {
	for _, way := range silences {
		x := made(t, 4, 8, 100)
		var got strings.Builder
		for _, c := range way.text {
			play(t, x, string(c))
			if c != 's' {
				continue
			}
			got.WriteByte(byte('0' + x.Exponent()))
		}
		if got.String() != way.exponents {
			t.Errorf("behind %q: %s; want %s", way.text, got.String(), way.exponents)
		}
	}
}

// P17.2: by hand, the request that finds a server silent asks next by the floor already.
func TestSilenceNext(t *testing.T) {
	x := made(t, 5, 8, 0)
	play(t, x, "88")
	for _, way := range []struct {
		now      int64
		reach    byte
		exponent int
		next     int64
	}{
		{0, 2, 7, 128 * second}, {200 * second, 4, 7, 328 * second}, {300 * second, 8, 7, 428 * second}, {500 * second, 16, 5, 532 * second}, {532 * second, 32, 5, 564 * second},
	} {
		send(t, x, way.now)
		checkHolds(t, x, way.reach, way.exponent, 5, way.next)
	}
}

// P17.2: by hand, how many good answers have to come behind a silence, and behind none, at the floor and above it.
func TestSilenceSteady(t *testing.T) {
	for _, way := range []struct {
		text string
		more int
	}{
		{"", 8}, {"ggggggg", 1}, {"gggggggs", 1}, {"gggggggss", 1}, {"gggggggsss", 1}, {"gggggggssss", 8}, {"gggggggsssss", 8},
		{"sgggsgggsgsss", 1}, {"sgggsgggsgssss", 8}, {"sssgggg", 4}, {"ssssgggg", 4}, {"ssssggggsss", 4}, {"ssssggggssss", 8},
		{"8ggggggg", 1}, {"8gggggggsss", 1}, {"8gggggggssss", 8}, {"8s8s8sgss", 7}, {"8s8s8sgsss", 7}, {"8s8s8sgssss", 8}, {"sgggbsss", 8}, {"sbgggsss", 5}, {"sbgggssss", 8},
	} {
		x := made(t, 4, 10, 100)
		play(t, x, way.text)
		before := x.Exponent()
		answer(t, x, true, way.more-1)
		if got := x.Exponent(); got != before {
			t.Errorf("behind %q and %d more good ones: %d; was %d", way.text, way.more-1, got, before)
		}
		answer(t, x, true, 1)
		if got := x.Exponent(); got != before+1 {
			t.Errorf("behind %q and %d more good ones: %d; was %d", way.text, way.more, got, before)
		}
	}
}
