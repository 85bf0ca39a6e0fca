package poll_test

import (
	"math"
	"math/rand/v2"
	"testing"

	"ephemeris/api"
	"ephemeris/poll"
)

// what is a call, and its error.
type what struct {
	name string
	e    api.Errno
}

// someTime is a time of chance: near to when it asks, anywhere, or one that may not be.
func someTime(chance *rand.Rand, when int64) int64 {
	switch chance.IntN(16) {
	case 0:
		return chance.Int64N(most)
	case 1:
		return []int64{0, most, most - 1, 1}[chance.IntN(4)]
	case 2:
		return []int64{-1, most + 1, math.MinInt64, math.MaxInt64, -chance.Int64()}[chance.IntN(5)]
	case 3, 4:
		return max(when-chance.Int64N(1024*second), 0)
	case 5, 6, 7:
		return when + chance.Int64N(1024*second)
	}
	return when + chance.Int64N(3) - 1
}

// someExponent is one of chance that may be, now and then one that may not.
func someExponent(chance *rand.Rand) int {
	if chance.IntN(4) == 0 {
		return []int{3, 11, 0, -1, math.MinInt, math.MaxInt}[chance.IntN(6)]
	}
	return min(4+chance.IntN(12)*chance.IntN(3)/2, 10)
}

// doOne does one thing of chance, of which good answers are the most, and Stop and Rate rare.
func doOne(t *testing.T, chance *rand.Rand, p pair) what {
	t.Helper()
	switch n := chance.IntN(240); {
	case n == 0:
		return what{"stop", p.stop(t)}
	case n < 4:
		return what{"rate", p.rate(t, someExponent(chance))}
	case n < 12:
		return what{"bad", p.got(t, false)}
	case n < 160:
		return what{"good", p.got(t, true)}
	}
	return what{"sent", p.sent(t, someTime(chance, p.m.when))}
}

// P17.1 to P17.4: whatever is done in which order, a poll is as its model.
func TestAll(t *testing.T) {
	chance := rand.New(rand.NewPCG(174, 1))
	told := map[what]int{}
	for range 150 {
		least := 4 + chance.IntN(7)
		p := pairOf(t, least, least+chance.IntN(11-least), chance.Int64N(most)>>chance.IntN(62))
		for range 200 {
			before := *p.x
			w := doOne(t, chance, p)
			told[w]++
			if w.e != api.OK && *p.x != before {
				t.Fatalf("%s = %d: %v; was %v", w.name, w.e, *p.x, before)
			}
		}
		if !p.m.stopped {
			p.checkFuture(t)
		}
	}
	for _, w := range []what{{"sent", api.OK}, {"sent", api.ErrArg}, {"sent", api.ErrState}, {"good", api.OK}, {"good", api.ErrState}, {"bad", api.OK}, {"bad", api.ErrState}, {"rate", api.OK}, {"rate", api.ErrArg}, {"rate", api.ErrState}, {"stop", api.OK}, {"stop", api.ErrState}} {
		if told[w] < 10 {
			t.Errorf("%s told %d only %d times", w.name, w.e, told[w])
		}
	}
}

// P17.2: what follows hangs on when requests were sent, and on what came, not on whether anything was asked between.
func TestAsksChangeNothing(t *testing.T) {
	chance := rand.New(rand.NewPCG(174, 2))
	for range 100 {
		p := pairOf(t, 4, 9, 100)
		bare := made(t, 4, 9, 100)
		for range 100 {
			when := p.m.when
			if chance.IntN(3) == 0 {
				p.sent(t, when)
				send(t, bare, when)
			} else {
				good := chance.IntN(20) > 0
				p.got(t, good)
				answer(t, bare, good, 1)
			}
		}
		if *p.x != *bare {
			t.Fatalf("%v; unasked %v", *p.x, *bare)
		}
	}
}

// answerSome gives answers of chance: none, some good ones, or a few of which not all are.
func answerSome(t *testing.T, chance *rand.Rand, x *poll.Poll) {
	t.Helper()
	switch chance.IntN(4) {
	case 0:
		answer(t, x, true, chance.IntN(20))
	case 1:
		for range chance.IntN(4) {
			answer(t, x, chance.IntN(2) == 0, 1)
		}
	}
}

// sendLate sends a request when it is due, or later, and is when.
func sendLate(t *testing.T, chance *rand.Rand, x *poll.Poll) int64 {
	t.Helper()
	at, _ := x.Next()
	if chance.IntN(3) == 0 {
		at += chance.Int64N(2048 * second)
	}
	checkDue(t, x, at, true)
	send(t, x, at)
	return at
}

// P17.5: behind Rate two requests that are sent when they are due, or later, stand 2^least seconds apart, or more, also the last one ahead of it and the first one behind; the exponent is never below least again.
func TestDemanded(t *testing.T) {
	chance := rand.New(rand.NewPCG(175, 1))
	for range 500 {
		least := 4 + chance.IntN(7)
		x := made(t, least, least+chance.IntN(11-least), chance.Int64N(5000*second))
		demanded, last := 0, int64(-1)
		for range 40 {
			if chance.IntN(20) == 0 {
				least := 4 + chance.IntN(7)
				checkErrno(t, "Rate", x.Rate(least), api.OK)
				demanded = max(demanded, least)
			}
			answerSome(t, chance, x)
			now := sendLate(t, chance, x)
			if demanded > 0 && last >= 0 && now-last < apart(demanded) {
				t.Fatalf("of a floor of %d requests at %d and %d", demanded, last, now)
			}
			last = now
			if x.Exponent() < demanded || x.Floor() < demanded {
				t.Fatalf("of a demand of %d: Exponent %d, Floor %d", demanded, x.Exponent(), x.Floor())
			}
		}
	}
}

// P17.6: the exponent is always from the floor to the greatest one, which is most, or what was demanded.
func TestExponentBetween(t *testing.T) {
	chance := rand.New(rand.NewPCG(176, 1))
	for range 200 {
		least := 4 + chance.IntN(7)
		greatest := least + chance.IntN(11-least)
		x := made(t, least, greatest, 0)
		floor := least
		for range 400 {
			switch chance.IntN(60) {
			case 0:
				demanded := 4 + chance.IntN(7)
				checkErrno(t, "Rate", x.Rate(demanded), api.OK)
				floor, greatest = max(floor, demanded), max(greatest, demanded)
			case 1, 2:
				answer(t, x, false, 1)
			case 3, 4, 5, 6, 7, 8:
				send(t, x, chance.Int64N(most))
			default:
				answer(t, x, true, 1)
			}
			if x.Floor() != floor || x.Exponent() < floor || x.Exponent() > greatest {
				t.Fatalf("Exponent %d, Floor %d; want from %d to %d", x.Exponent(), x.Floor(), floor, greatest)
			}
		}
	}
}

// checkPace holds so many requests when they are due: each stands as far from the one ahead of it as the exponent says.
func checkPace(t *testing.T, x *poll.Poll, many, exponent int) {
	t.Helper()
	for range many {
		at, _ := x.Next()
		send(t, x, at)
		if next, _ := x.Next(); next-at != apart(exponent) || x.Exponent() != exponent {
			t.Fatalf("at %d it asks next at %d, of %d; want %d", at, next, x.Exponent(), exponent)
		}
	}
}

// P17.6: a server that never answers is asked at the floor's pace, from the first request on; one that answers no more, from the fourth one on behind the last that was answered; also behind Rate.
func TestNeverAnswers(t *testing.T) {
	for least := 4; least <= 10; least++ {
		for greatest := least; greatest <= 10; greatest++ {
			x := made(t, least, greatest, 100)
			checkPace(t, x, 50, least)
			answer(t, x, true, 8*7)
			checkPace(t, x, 3, greatest)
			checkPace(t, x, 20, least)
			for demanded := 4; demanded <= 10; demanded++ {
				other := x.Copy()
				checkErrno(t, "Rate", other.Rate(demanded), api.OK)
				checkPace(t, other, 20, max(demanded, least))
				answer(t, other, true, 8*7)
				checkPace(t, other, 3, max(demanded, greatest))
				checkPace(t, other, 20, max(demanded, least))
			}
		}
	}
}

// P17.6: of every register nothing is left behind eight requests without an answer, and the lowest bit of it is the last to go.
func TestNothingLeft(t *testing.T) {
	for reach := range 256 {
		x := made(t, 4, 10, 0)
		for bit := 7; bit >= 0; bit-- {
			send(t, x, 0)
			if reach>>bit&1 == 1 {
				answer(t, x, true, 1)
			}
		}
		want := byte(reach)
		for range 8 {
			if x.Reach() != want {
				t.Fatalf("of %08b: %08b; want %08b", reach, x.Reach(), want)
			}
			send(t, x, 0)
			want <<= 1
		}
		if x.Reach() != 0 {
			t.Fatalf("of %08b %08b is left", reach, x.Reach())
		}
	}
}
