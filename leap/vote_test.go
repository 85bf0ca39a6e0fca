package leap_test

import (
	"bytes"
	"math/rand/v2"
	"slices"
	"testing"

	"ephemeris/leap"
)

// checkVote holds one Vote, which does not change what it is given.
func checkVote(t *testing.T, l []byte, want byte, ok bool) {
	t.Helper()
	kept := slices.Clone(l)
	if got, is := leap.Vote(l); got != want || is != ok {
		t.Fatalf("Vote(%v) = %d, %t; want %d, %t", l, got, is, want, ok)
	}
	if !slices.Equal(l, kept) {
		t.Fatalf("Vote made %v of %v", l, kept)
	}
}

// some is a number so many times.
func some(said byte, many int) []byte {
	return bytes.Repeat([]byte{said}, many)
}

// elected is what Vote has to tell: the one in the middle of those that count, if more than half are it.
func elected(l []byte) (byte, bool) {
	l = slices.DeleteFunc(slices.Clone(l), func(said byte) bool { return said > 2 })
	if len(l) == 0 {
		return 0, false
	}
	slices.Sort(l)
	middle, same := l[len(l)/2], 0
	for _, said := range l {
		if said == middle {
			same++
		}
	}
	if 2*same <= len(l) {
		return 0, false
	}
	return middle, true
}

// P16.4: by hand: of none, of one, of two, of three.
func TestVoteFew(t *testing.T) {
	checkVote(t, nil, 0, false)
	checkVote(t, []byte{}, 0, false)
	for said := range byte(3) {
		checkVote(t, []byte{said}, said, true)
		checkVote(t, []byte{said, said}, said, true)
		for other := range byte(3) {
			if other == said {
				continue
			}
			checkVote(t, []byte{said, other}, 0, false)
			checkVote(t, []byte{said, other, said}, said, true)
			checkVote(t, []byte{said, other, other}, other, true)
			checkVote(t, []byte{said, other, said, other}, 0, false)
			checkVote(t, []byte{said, other, 3 - said - other}, 0, false)
		}
	}
}

// P16.4: just half, one more than half, one less, of few and of many; the rest is one other, or both.
func TestVoteHalf(t *testing.T) {
	for said := range byte(3) {
		for _, half := range []int{1, 2, 5, 100, 127, 128, 255, 256, 32_767, 32_768, 65_536} {
			for _, rest := range [][]byte{some((said+1)%3, half), some((said+2)%3, half), append(some((said+1)%3, half/2), some((said+2)%3, half-half/2)...)} {
				checkVote(t, append(some(said, half), rest...), 0, false)
				checkVote(t, append(rest, some(said, half+1)...), said, true)
			}
			other := (said + 1) % 3
			checkVote(t, append(some(said, half-1), some(other, half)...), other, true)
			checkVote(t, append(some(3-said-other, 1), append(some(said, half), some(other, half)...)...), 0, false)
		}
	}
}

// P16.4: the most, but not more than half.
func TestVoteMost(t *testing.T) {
	for said := range byte(3) {
		for many := 2; many < 50; many++ {
			rest := append(some((said+1)%3, many-1), some((said+2)%3, many-1)...)
			checkVote(t, append(some(said, many), rest...), 0, false)
			checkVote(t, append(some(said, 2*many-2), rest...), 0, false)
			checkVote(t, append(some(said, 2*many-1), rest...), said, true)
		}
	}
}

// P16.4: 3s alone, and 3s among others, however many: they count neither for one nor against it.
func TestVoteThrees(t *testing.T) {
	for _, many := range []int{1, 2, 3, 100, 1000} {
		checkVote(t, some(3, many), 0, false)
		for said := range byte(3) {
			checkVote(t, append(some(3, many), said), said, true)
			checkVote(t, append([]byte{said}, some(3, many)...), said, true)
			checkVote(t, append(some(3, many), said, (said+1)%3), 0, false)
			checkVote(t, append(append([]byte{said, (said + 1) % 3}, some(3, many)...), said), said, true)
		}
	}
}

// P16.4: numbers above 3, which no server says: they are not below 3, either.
func TestVoteAbove(t *testing.T) {
	for above := 4; above < 256; above++ {
		checkVote(t, some(byte(above), 5), 0, false)
		for said := range byte(3) {
			checkVote(t, append(some(byte(above), 5), said), said, true)
			checkVote(t, []byte{said, byte(above), 3, (said + 1) % 3, byte(above)}, 0, false)
			checkVote(t, []byte{byte(above), said, byte(above), said, (said + 1) % 3}, said, true)
		}
	}
}

// P16.4: all lists of up to six, against what the words say.
func TestVoteAll(t *testing.T) {
	for many := range 7 {
		l := make([]byte, many)
		for n := range 1 << (2 * many) {
			for i := range l {
				l[i] = byte(n >> (2 * i) & 3)
			}
			want, ok := elected(l)
			checkVote(t, l, want, ok)
		}
	}
}

// P16.4: many, of chance, so that it is near to half.
func TestVoteMany(t *testing.T) {
	chance := rand.New(rand.NewPCG(164, 1))
	told, none := 0, 0
	for range 3000 {
		l := make([]byte, chance.IntN(300))
		mostly := byte(chance.IntN(4))
		for i := range l {
			l[i] = []byte{mostly, mostly, mostly, byte(chance.IntN(4)), byte(chance.IntN(3)), byte(chance.IntN(256))}[chance.IntN(6)]
			if chance.IntN(4) == 0 {
				l[i] = (mostly + 1) % 3
			}
		}
		want, ok := elected(l)
		checkVote(t, l, want, ok)
		if ok {
			told++
		} else {
			none++
		}
	}
	if told < 500 || none < 500 {
		t.Errorf("told %d times, none %d times", told, none)
	}
}

// P16.7: a vote is not changed by the order, nor by any 3.
func TestVoteOrder(t *testing.T) {
	chance := rand.New(rand.NewPCG(167, 1))
	told := 0
	for range 3000 {
		l := make([]byte, 1+chance.IntN(20))
		for i := range l {
			l[i] = []byte{0, 1, 2, 3, byte(chance.IntN(256)), 1}[chance.IntN(6)]
		}
		want, ok := leap.Vote(l)
		if ok {
			told++
		}
		for range 5 {
			chance.Shuffle(len(l), func(i, j int) { l[i], l[j] = l[j], l[i] })
			checkVote(t, l, want, ok)
			l = slices.Insert(l, chance.IntN(len(l)+1), some(3, chance.IntN(4))...)
			checkVote(t, l, want, ok)
		}
		slices.Reverse(l)
		checkVote(t, l, want, ok)
		checkVote(t, slices.DeleteFunc(l, func(said byte) bool { return said == 3 }), want, ok)
	}
	if told < 500 {
		t.Errorf("told %d times", told)
	}
}
