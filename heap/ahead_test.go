package heap_test

import (
	"math"
	"math/rand/v2"
	"testing"

	"ephemeris/heap"
)

// P13.1: At tells, then Seq, then Id; an item is not ahead of itself.
func TestAheadByHand(t *testing.T) {
	const most = math.MaxUint64
	// Each is ahead of all that stand behind it.
	order := []heap.Item{
		{Id: 0, Seq: 0, At: math.MinInt64}, {Id: 1, Seq: 0, At: math.MinInt64}, {Id: most, Seq: 0, At: math.MinInt64},
		{Id: 0, Seq: 1, At: math.MinInt64}, {Id: most, Seq: 1, At: math.MinInt64},
		{Id: 0, Seq: most, At: math.MinInt64}, {Id: most - 1, Seq: most, At: math.MinInt64}, {Id: most, Seq: most, At: math.MinInt64},
		{Id: 0, Seq: 0, At: math.MinInt64 + 1}, {Id: most, Seq: most, At: math.MinInt64 + 1},
		{Id: 7, Seq: 7, At: -1 << 32}, {Id: 6, Seq: 6, At: -2}, {Id: 0, Seq: most, At: -1}, {Id: most, Seq: 0, At: 0},
		{Id: 0, Seq: 1, At: 0}, {Id: 3, Seq: 1<<63 - 1, At: 0}, {Id: 2, Seq: 1 << 63, At: 0}, {Id: 3, Seq: 1 << 63, At: 0},
		{Id: 1<<63 - 1, Seq: 1<<63 + 1, At: 0}, {Id: 1 << 63, Seq: 1<<63 + 1, At: 0},
		{Id: 9, Seq: 9, At: 1}, {Id: 8, Seq: 8, At: 1 << 32}, {Id: 5, Seq: 1 << 32, At: 1<<32 + 1}, {Id: 4, Seq: 1<<32 + 1, At: 1<<32 + 1},
		{Id: 1 << 32, Seq: 1<<32 + 1, At: 1<<32 + 1}, {Id: 1<<32 + 1, Seq: 1<<32 + 1, At: 1<<32 + 1},
		{Id: most, Seq: most, At: math.MaxInt64 - 1}, {Id: 0, Seq: 0, At: math.MaxInt64}, {Id: most, Seq: 0, At: math.MaxInt64},
		{Id: 0, Seq: most, At: math.MaxInt64}, {Id: most, Seq: most, At: math.MaxInt64},
	}
	for i, a := range order {
		for k, b := range order {
			if got := heap.Ahead(a, b); got != (i < k) {
				t.Errorf("Ahead(%v, %v) = %t", a, b, got)
			}
		}
	}
}

// P13.1: items of chance, of which many are as others in At, or in Seq, too.
func TestAhead(t *testing.T) {
	chance := rand.New(rand.NewPCG(131, 3))
	var ahead, behind, same int
	for range 20_000 {
		a, b := someItem(chance, 3), someItem(chance, 3)
		if chance.IntN(3) == 0 {
			b.At = a.At
		}
		if chance.IntN(3) == 0 {
			b.Seq = a.Seq
		}
		if got := heap.Ahead(a, b); got != before(a, b) {
			t.Fatalf("Ahead(%v, %v) = %t", a, b, got)
		}
		switch {
		case a == b:
			same++
		case heap.Ahead(a, b):
			ahead++
		case heap.Ahead(b, a):
			behind++
		default:
			t.Fatalf("none of %v and %v is ahead", a, b)
		}
	}
	if min(ahead, behind, same) < 100 {
		t.Fatalf("%d ahead, %d behind, %d the same", ahead, behind, same)
	}
}
