package poll_test

import (
	"math"
	"slices"
	"testing"

	"ephemeris/api"
	"ephemeris/poll"
)

const (
	most   = 4_611_686_018_427_387_904 // MaxTime
	second = 1_000_000_000
)

// request is when one was sent, and whether it was answered.
type request struct {
	at       int64
	answered bool
}

// model is what a poll has: all requests in a list, from which the register and who is silent are told.
type model struct {
	floor, exponent, greatest int
	requests                  []request
	early                     bool // an answer came ahead of all requests
	steady                    int
	when                      int64
	stopped                   bool
}

// copied is a model of its own that has the same.
func (m *model) copied() *model {
	other := *m
	other.requests = slices.Clone(m.requests)
	return &other
}

// apart is how many nanoseconds two requests stand apart, at an exponent.
func apart(exponent int) int64 {
	return map[int]int64{4: 16, 5: 32, 6: 64, 7: 128, 8: 256, 9: 512, 10: 1024}[exponent] * second
}

// reach is what Reach has to tell: the last eight requests, the eldest one first.
func (m *model) reach() byte {
	marks := []bool{m.early}
	for _, r := range m.requests {
		marks = append(marks, r.answered)
	}
	told := 0
	for _, answered := range marks[max(len(marks)-8, 0):] {
		told *= 2
		if answered {
			told++
		}
	}
	return byte(told)
}

// silent is whether there were three requests, and the last three were not answered.
func (m *model) silent() bool {
	n := len(m.requests)
	return n >= 3 && !slices.ContainsFunc(m.requests[n-3:], func(r request) bool { return r.answered })
}

// sent is what Sent has to answer.
func (m *model) sent(now int64) api.Errno {
	switch {
	case now < 0 || now > most:
		return api.ErrArg
	case m.stopped:
		return api.ErrState
	case m.silent():
		m.exponent, m.steady = m.floor, 0
	}
	m.requests = append(m.requests, request{at: now})
	m.when = now + apart(m.exponent)
	return api.OK
}

// got is what Got has to answer.
func (m *model) got(good bool) api.Errno {
	if m.stopped {
		return api.ErrState
	}
	if n := len(m.requests); n > 0 {
		m.requests[n-1].answered = true
	} else {
		m.early = true
	}
	if good {
		m.steady++
	} else {
		m.steady = 0
	}
	switch {
	case !good && m.exponent > m.floor:
		m.exponent--
	case m.steady == 8 && m.exponent < m.greatest:
		m.exponent++
	}
	m.steady %= 8
	return api.OK
}

// rate is what Rate has to answer.
func (m *model) rate(least int) api.Errno {
	if least < 4 || least > 10 {
		return api.ErrArg
	}
	if m.stopped {
		return api.ErrState
	}
	for _, n := range []*int{&m.floor, &m.exponent, &m.greatest} {
		if *n < least {
			*n = least
		}
	}
	m.steady = 0
	if n := len(m.requests); n > 0 && m.requests[n-1].at+apart(m.exponent) > m.when {
		m.when = m.requests[n-1].at + apart(m.exponent)
	}
	return api.OK
}

// stop is what Stop has to answer.
func (m *model) stop() api.Errno {
	if m.stopped {
		return api.ErrState
	}
	m.stopped = true
	return api.OK
}

// made is a new poll of what may be.
func made(t *testing.T, least, greatest int, first int64) *poll.Poll {
	t.Helper()
	x, e := poll.New(least, greatest, first)
	if x == nil || e != api.OK {
		t.Fatalf("New(%d, %d, %d) = %p, %d", least, greatest, first, x, e)
	}
	return x
}

// checkDue holds one Due.
func checkDue(t *testing.T, x *poll.Poll, now int64, want bool) {
	t.Helper()
	if got := x.Due(now); got != want {
		t.Fatalf("Due(%d) = %t; want %t", now, got, want)
	}
}

// checkNumbers holds the register, the exponent and the floor.
func checkNumbers(t *testing.T, x *poll.Poll, reach byte, exponent, floor int) {
	t.Helper()
	if x.Reach() != reach || x.Exponent() != exponent || x.Floor() != floor {
		t.Fatalf("Reach %08b, Exponent %d, Floor %d; want %08b, %d, %d", x.Reach(), x.Exponent(), x.Floor(), reach, exponent, floor)
	}
}

// checkHolds holds all that a poll tells, when it asks.
func checkHolds(t *testing.T, x *poll.Poll, reach byte, exponent, floor int, when int64) {
	t.Helper()
	checkNumbers(t, x, reach, exponent, floor)
	if got, ok := x.Next(); got != when || !ok {
		t.Fatalf("Next() = %d, %t; want %d, true", got, ok, when)
	}
	for _, now := range []int64{math.MinInt64, -1, when - 1} {
		checkDue(t, x, now, false)
	}
	for _, now := range []int64{when, when + 1, most + 1024*second, math.MaxInt64} {
		checkDue(t, x, now, true)
	}
	checkDue(t, x, 0, when == 0)
}

// checkStopped holds all that a poll tells, when it asks no more.
func checkStopped(t *testing.T, x *poll.Poll, reach byte, exponent, floor int) {
	t.Helper()
	checkNumbers(t, x, reach, exponent, floor)
	if got, ok := x.Next(); got != 0 || ok {
		t.Fatalf("Next() = %d, %t; want 0, false", got, ok)
	}
	for _, now := range []int64{math.MinInt64, -1, 0, 1, 100, most, most + 1, math.MaxInt64} {
		checkDue(t, x, now, false)
	}
}

// checkErrno holds what a call told.
func checkErrno(t *testing.T, name string, got, want api.Errno) {
	t.Helper()
	if got != want {
		t.Fatalf("%s = %d; want %d", name, got, want)
	}
}

// send sends requests at these, all of which may be.
func send(t *testing.T, x *poll.Poll, list ...int64) {
	t.Helper()
	for _, now := range list {
		checkErrno(t, "Sent", x.Sent(now), api.OK)
	}
}

// answer is so many answers, all good or not.
func answer(t *testing.T, x *poll.Poll, good bool, many int) {
	t.Helper()
	for range many {
		checkErrno(t, "Got", x.Got(good), api.OK)
	}
}

// play does what a text says: s sends a request when it is due, g and b are an answer that is good and one that is not, 8 is eight good ones.
func play(t *testing.T, x *poll.Poll, text string) {
	t.Helper()
	for _, c := range text {
		switch c {
		case 's':
			when, _ := x.Next()
			send(t, x, when)
		case 'g':
			answer(t, x, true, 1)
		case '8':
			answer(t, x, true, 8)
		case 'b':
			answer(t, x, false, 1)
		default:
			t.Fatalf("%c is nothing to be played", c)
		}
	}
}

// checkModel holds a poll against its model.
func checkModel(t *testing.T, x *poll.Poll, m *model) {
	t.Helper()
	if m.stopped {
		checkStopped(t, x, m.reach(), m.exponent, m.floor)
		return
	}
	checkHolds(t, x, m.reach(), m.exponent, m.floor, m.when)
}

// pair is a poll and its model.
type pair struct {
	x *poll.Poll
	m *model
}

// pairOf is a new poll and its model.
func pairOf(t *testing.T, least, greatest int, first int64) pair {
	t.Helper()
	p := pair{made(t, least, greatest, first), &model{floor: least, exponent: least, greatest: greatest, when: first}}
	p.check(t)
	return p
}

// copy is a pair of its own that has the same.
func (p pair) copy() pair {
	return pair{p.x.Copy(), p.m.copied()}
}

func (p pair) check(t *testing.T) {
	t.Helper()
	checkModel(t, p.x, p.m)
}

// play does what a text says to both.
func (p pair) play(t *testing.T, text string) {
	t.Helper()
	play(t, p.x, text)
	for _, c := range text {
		switch c {
		case 's':
			p.m.sent(p.m.when)
		case 'g':
			p.m.got(true)
		case 'b':
			p.m.got(false)
		case '8':
			for range 8 {
				p.m.got(true)
			}
		}
	}
	p.check(t)
}

func (p pair) sent(t *testing.T, now int64) api.Errno {
	t.Helper()
	e := p.m.sent(now)
	checkErrno(t, "Sent", p.x.Sent(now), e)
	p.check(t)
	return e
}

func (p pair) got(t *testing.T, good bool) api.Errno {
	t.Helper()
	e := p.m.got(good)
	checkErrno(t, "Got", p.x.Got(good), e)
	p.check(t)
	return e
}

func (p pair) rate(t *testing.T, least int) api.Errno {
	t.Helper()
	e := p.m.rate(least)
	checkErrno(t, "Rate", p.x.Rate(least), e)
	p.check(t)
	return e
}

func (p pair) stop(t *testing.T) api.Errno {
	t.Helper()
	e := p.m.stop()
	checkErrno(t, "Stop", p.x.Stop(), e)
	p.check(t)
	return e
}

// checkFuture holds what is not told, but comes out behind other calls, of copies: how many good answers came, the greatest exponent, the last request, and who is silent.
func (p pair) checkFuture(t *testing.T) {
	t.Helper()
	up := p.copy()
	for range 8 * 7 {
		up.got(t, true)
	}
	up.got(t, false)
	for least := 4; least <= 10; least++ {
		p.copy().rate(t, least)
	}
	quiet := p.copy()
	for n := range int64(5) {
		quiet.sent(t, 7+n)
		quiet.copy().rate(t, 10)
	}
	for range 8 {
		quiet.got(t, true)
	}
	p.check(t)
}

// The chapter's examples.
func TestExamples(t *testing.T) {
	x := made(t, 4, 6, 100)
	checkDue(t, x, 99, false)
	checkDue(t, x, 100, true)
	checkErrno(t, "Sent", x.Sent(100), api.OK)
	checkHolds(t, x, 0, 4, 4, 16_000_000_100)
	answer(t, x, true, 8)
	checkHolds(t, x, 1, 5, 4, 16_000_000_100)
	checkErrno(t, "Rate", x.Rate(8), api.OK)
	checkHolds(t, x, 1, 8, 8, 256_000_000_100)
}

// P17.1 to P17.4: each call of none, and of a poll that New did not make: ErrNil ahead of all other errors, and it stays none.
func TestNone(t *testing.T) {
	for _, x := range []*poll.Poll{nil, new(poll.Poll), {}} {
		for range 2 {
			checkStopped(t, x, 0, 0, 0)
			for _, now := range []int64{math.MinInt64, -1, 0, 100, most, most + 1, math.MaxInt64} {
				checkErrno(t, "Sent", x.Sent(now), api.ErrNil)
			}
			for _, least := range []int{math.MinInt, -1, 0, 3, 4, 7, 10, 11, math.MaxInt} {
				checkErrno(t, "Rate", x.Rate(least), api.ErrNil)
			}
			checkErrno(t, "Got", x.Got(true), api.ErrNil)
			checkErrno(t, "Got", x.Got(false), api.ErrNil)
			checkErrno(t, "Stop", x.Stop(), api.ErrNil)
			if other := x.Copy(); other != nil {
				t.Fatalf("Copy() = %p", other)
			}
		}
	}
}

// P17.1: a copy, and what it is a copy of, when the other one goes on by each of the calls.
func TestCopyApart(t *testing.T) {
	calls := map[string]func(p pair){
		"Sent": func(p pair) { p.sent(t, 5000*second) }, "good": func(p pair) { p.got(t, true) }, "bad": func(p pair) { p.got(t, false) },
		"Rate": func(p pair) { p.rate(t, 9) }, "Stop": func(p pair) { p.stop(t) },
	}
	for name, start := range map[string]func(p pair){
		"new":      func(p pair) {},
		"asked":    func(p pair) { p.sent(t, 100) },
		"answered": func(p pair) { p.sent(t, 100); p.got(t, true); p.sent(t, 200); p.got(t, true); p.sent(t, 300) },
		"seven":    func(p pair) { p.play(t, "sggggggg") },
		"above":    func(p pair) { p.play(t, "s88sg") },
		"silent":   func(p pair) { p.play(t, "s88sss") },
		"demanded": func(p pair) { p.sent(t, 100); p.rate(t, 7) },
		"stopped":  func(p pair) { p.sent(t, 100); p.got(t, true); p.stop(t) },
	} {
		for call, do := range calls {
			t.Run(name+" "+call, func(t *testing.T) {
				p := pairOf(t, 4, 8, 100)
				start(p)
				other := p.copy()
				if other.x == p.x || other.x == nil {
					t.Fatalf("Copy() = %p, of %p", other.x, p.x)
				}
				other.check(t)
				do(p)
				other.check(t)
				third := other.copy()
				do(other)
				p.check(t)
				third.check(t)
				third.checkFuture(t)
				p.checkFuture(t)
			})
		}
	}
}
