// Package fix is layer 1: whole numbers that are not wrong. See shared/doc/01-fix.md.
package fix

import (
	"math"
	"math/bits"

	"ephemeris/api"
)

// Add is a + b, or ErrRange (P1.1).
func Add(a, b int64) (int64, api.Errno) {
	sum := a + b
	if (sum < a) != (b < 0) {
		return 0, api.ErrRange
	}
	return sum, api.OK
}

// Sub is a - b, or ErrRange (P1.1).
func Sub(a, b int64) (int64, api.Errno) {
	rest := a - b
	if (rest > a) != (b < 0) {
		return 0, api.ErrRange
	}
	return rest, api.OK
}

// Mul is a b, or ErrRange (P1.1).
func Mul(a, b int64) (int64, api.Errno) {
	return quotient(a, b, 1, false)
}

// AddSat is a + b, or the int64 that is next to it (P1.1).
func AddSat(a, b int64) int64 {
	sum, e := Add(a, b)
	if e != api.OK {
		return end(a)
	}
	return sum
}

// SubSat is a - b, or the int64 that is next to it (P1.1).
func SubSat(a, b int64) int64 {
	rest, e := Sub(a, b)
	if e != api.OK {
		return end(a)
	}
	return rest
}

// MulDiv is a b / c, down; ErrArg, if c is not above 0, else ErrRange (P1.2).
func MulDiv(a, b, c int64) (int64, api.Errno) {
	return quotient(a, b, c, false)
}

// MulDivUp is a b / c, up; ErrArg, if c is not above 0, else ErrRange (P1.2).
func MulDivUp(a, b, c int64) (int64, api.Errno) {
	return quotient(a, b, c, true)
}

// Sqrt is the greatest number whose square is not above n (P1.3).
func Sqrt(n uint64) uint64 {
	root := uint64(0)
	// The root of 64 bits has at most 32, so no square that is tried here wraps.
	for bit := uint64(1) << 31; bit > 0; bit >>= 1 {
		tried := root | bit
		if tried*tried <= n {
			root = tried
		}
	}
	return root
}

// Abs is a without its sign; 2^63 - 1 of -2^63, whose own is no int64 (P1.3).
func Abs(a int64) int64 {
	if a >= 0 {
		return a
	}
	return SubSat(0, a)
}

// Clamp is lo, if a is below it; else hi, if a is above that; else a (P1.3).
func Clamp(a, lo, hi int64) int64 {
	if a < lo {
		return lo
	}
	if a > hi {
		return hi
	}
	return a
}

// end is the int64 that is next to a sum or a difference that left the range:
// either leaves it only on the side on which its first number already is.
func end(a int64) int64 {
	if a < 0 {
		return math.MinInt64
	}
	return math.MaxInt64
}

// size is a without its sign, unsigned, since that of -2^63 is no int64.
func size(a int64) uint64 {
	if a < 0 {
		return -uint64(a)
	}
	return uint64(a)
}

// product is a b without its sign, in two words, the high one first.
func product(a, b int64) [2]uint64 {
	high, low := bits.Mul64(size(a), size(b))
	return [2]uint64{high, low}
}

// quotient is a b / c, up or down.
func quotient(a, b, c int64, up bool) (int64, api.Errno) {
	if c <= 0 {
		return 0, api.ErrArg
	}
	const half = uint64(1) << 63
	negative := (a < 0) != (b < 0)
	back := func(n uint64) (int64, api.Errno) {
		if negative && n <= half {
			return int64(-n), api.OK
		}
		if !negative && n < half {
			return int64(n), api.OK
		}
		return 0, api.ErrRange
	}
	words := product(a, b)
	if words[0] >= uint64(c) { // the quotient has more than 64 bits
		return 0, api.ErrRange
	}
	n, rest := bits.Div64(words[0], words[1], uint64(c))
	// What is divided here has lost its sign: below 0 it is down that leads away from 0, above it is up.
	away := up != negative
	if rest > 0 && away && n <= half { // a greater n is out of range as it is, and might wrap
		n++
	}
	return back(n)
}
