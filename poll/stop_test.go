package poll_test

import (
	"testing"

	"ephemeris/api"
)

// P17.4: Stop, once and twice, and each call behind it, in the order of the errors; what is told stays.
func TestStop(t *testing.T) {
	for _, text := range []string{"", "s", "sg", "s8", "8ssss", "sgggggggs", "s88sbs"} {
		x := made(t, 4, 8, 100)
		play(t, x, text)
		reach, exponent, floor := x.Reach(), x.Exponent(), x.Floor()
		checkErrno(t, "Stop", x.Stop(), api.OK)
		before := *x
		for range 2 {
			checkErrno(t, "Stop", x.Stop(), api.ErrState)
			checkErrno(t, "Got", x.Got(true), api.ErrState)
			checkErrno(t, "Got", x.Got(false), api.ErrState)
			for _, now := range []int64{0, 1, 100, 16*second + 100, most} {
				checkErrno(t, "Sent", x.Sent(now), api.ErrState)
			}
			for _, now := range []int64{-1, most + 1, -most} {
				checkErrno(t, "Sent", x.Sent(now), api.ErrArg)
			}
			for _, least := range []int{4, 5, 8, 9, 10} {
				checkErrno(t, "Rate", x.Rate(least), api.ErrState)
			}
			for _, least := range []int{-1, 0, 3, 11} {
				checkErrno(t, "Rate", x.Rate(least), api.ErrArg)
			}
			checkStopped(t, x, reach, exponent, floor)
			if *x != before {
				t.Fatalf("behind %q and Stop: %v; was %v", text, *x, before)
			}
		}
		other := x.Copy()
		checkStopped(t, other, reach, exponent, floor)
		checkErrno(t, "Stop", other.Stop(), api.ErrState)
		checkErrno(t, "Sent", other.Sent(0), api.ErrState)
	}
}
