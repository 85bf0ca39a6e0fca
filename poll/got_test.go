package poll_test

import "testing"

// P17.3: by hand, the exponent behind good answers and others, with none asked ahead, and with each answer to a request of its own.
func TestGotByHand(t *testing.T) {
	for _, way := range []struct {
		least, greatest int
		text            string
		exponent        int
	}{
		{4, 6, "", 4}, {4, 6, "g", 4}, {4, 6, "gggggg", 4}, {4, 6, "ggggggg", 4}, {4, 6, "gggggggg", 5}, {4, 6, "ggggggggg", 5},
		{4, 6, "8ggggggg", 5}, {4, 6, "88", 6}, {4, 6, "88ggggggg", 6}, {4, 6, "888", 6}, {4, 6, "8888888", 6},
		{4, 4, "8", 4}, {4, 4, "88888", 4}, {10, 10, "8", 10}, {10, 10, "888", 10}, {9, 10, "8", 10}, {9, 10, "88", 10}, {4, 10, "888888", 10}, {4, 10, "8888888", 10}, {4, 10, "88888", 9},
		{4, 6, "b", 4}, {4, 6, "bbbb", 4}, {10, 10, "b", 10}, {4, 4, "8b", 4}, {5, 9, "b", 5}, {5, 9, "8bb", 5},
		{4, 6, "8b", 4}, {4, 6, "8bb", 4}, {4, 6, "88b", 5}, {4, 6, "88bb", 4}, {4, 6, "88bbb", 4}, {4, 6, "888b", 5}, {4, 10, "888888b", 9}, {4, 10, "888888bbbbb", 5}, {4, 10, "888888bbbbbbb", 4},
		{4, 6, "gggggggbg", 4}, {4, 6, "gggggggbggggggg", 4}, {4, 6, "gggggggbgggggggg", 5}, {4, 6, "gbgggggggg", 5}, {4, 6, "gbggggggg", 4}, {4, 6, "bgggggggg", 5}, {4, 6, "bggggggg", 4},
		{4, 6, "8gggggggbg", 4}, {4, 6, "8gggggggbggggggg", 4}, {4, 6, "8gggggggb8", 5}, {4, 6, "88b8", 6}, {4, 6, "88gb8", 6}, {4, 6, "88gbggggggg", 5}, {4, 6, "888888b8", 6}, {4, 6, "888888bggggggg", 5},
		{4, 6, "gggbgggbgggbggg", 4}, {5, 5, "gggggggb8b8", 5},
	} {
		bare, asked := made(t, way.least, way.greatest, 100), made(t, way.least, way.greatest, 100)
		for _, c := range way.text {
			play(t, bare, string(c))
			if c == '8' {
				play(t, asked, "sgsgsgsgsgsgsgsg")
			} else {
				play(t, asked, "s"+string(c))
			}
		}
		if bare.Exponent() != way.exponent || asked.Exponent() != way.exponent {
			t.Errorf("of %d, %d behind %q: %d, and %d with requests; want %d", way.least, way.greatest, way.text, bare.Exponent(), asked.Exponent(), way.exponent)
		}
		if bare.Floor() != way.least || asked.Floor() != way.least {
			t.Errorf("of %d, %d behind %q: floor %d, %d", way.least, way.greatest, way.text, bare.Floor(), asked.Floor())
		}
	}
}

// P17.3: when it asks next stays, whatever becomes of the exponent, ahead of a request and behind one; the next request goes by the exponent that there is.
func TestGotLeavesNext(t *testing.T) {
	for _, first := range []int64{0, 100, most} {
		x := made(t, 4, 6, first)
		for n, exponent := range []int{4, 4, 4, 4, 4, 4, 4, 5, 5} {
			answer(t, x, true, 1)
			checkHolds(t, x, 1, exponent, 4, first)
			if n == 8 {
				answer(t, x, false, 1)
				checkHolds(t, x, 1, 4, 4, first)
			}
		}
	}
	x := made(t, 4, 6, 100)
	send(t, x, 200)
	for _, step := range []struct {
		good           bool
		many, exponent int
	}{{true, 7, 4}, {true, 1, 5}, {true, 8, 6}, {true, 8, 6}, {false, 1, 5}, {false, 1, 4}, {false, 1, 4}, {true, 8, 5}} {
		answer(t, x, step.good, step.many)
		checkHolds(t, x, 1, step.exponent, 4, 200+16*second)
	}
	send(t, x, 300)
	checkHolds(t, x, 2, 5, 4, 300+32*second)
	answer(t, x, false, 1)
	checkHolds(t, x, 3, 4, 4, 300+32*second)
	send(t, x, 400)
	checkHolds(t, x, 6, 4, 4, 400+16*second)
}

// P17.3: the exponents over good answers without an end, and then over ones that are not, of each least and greatest one.
func TestUpAndDown(t *testing.T) {
	for least := 4; least <= 10; least++ {
		for greatest := least; greatest <= 10; greatest++ {
			x := made(t, least, greatest, 0)
			for n := 1; n <= 100; n++ {
				answer(t, x, true, 1)
				checkNumbers(t, x, 1, min(least+n/8, greatest), least)
			}
			for n := 1; n <= 10; n++ {
				answer(t, x, false, 1)
				checkNumbers(t, x, 1, max(greatest-n, least), least)
			}
			answer(t, x, true, 7)
			checkNumbers(t, x, 1, least, least)
			answer(t, x, true, 1)
			checkNumbers(t, x, 1, min(least+1, greatest), least)
		}
	}
}
