package heap_test

import (
	"math"
	"math/rand/v2"
	"slices"
	"testing"

	"ephemeris/api"
	"ephemeris/heap"
)

// P13.3: what is removed from a heap of 22, whose last one, at 210, takes its place, and goes down, or stays.
func TestRemoveByHand(t *testing.T) {
	row := inOrder(22)
	for _, way := range []struct {
		place int
		path  []int // where the last one goes, from the place of the one that is gone on
	}{
		{0, []int{0, 1, 5}}, {1, []int{1, 5}}, {2, []int{2, 9}}, {3, []int{3, 13}}, {4, []int{4, 17}},
		{5, []int{5}}, {6, []int{6}}, {8, []int{8}}, {9, []int{9}}, {17, []int{17}}, {19, []int{19}}, {20, []int{20}}, {21, nil},
	} {
		want := slices.Clone(row[:21])
		if way.path != nil {
			want[way.place] = row[21]
			for i, place := range way.path[1:] {
				want[way.path[i]], want[place] = want[place], row[21]
			}
		}
		h, _ := heapOf(t, 22, row...)
		checkRemove(t, h, row[way.place].Id, row[way.place], api.OK, want)
		checkRemove(t, h, row[way.place].Id, heap.Item{}, api.ErrNone, want)
	}
}

// highRow is a row whose last one, at place 9, is ahead of what stands at place 1 and below it.
func highRow() []heap.Item {
	row := inOrder(10)
	for place, at := range []int64{0, 100, 10, 30, 40, 110, 120, 130, 140, 20} {
		row[place].At = at
	}
	return row
}

// P13.3: the last one goes up from the place that it takes, if it is ahead of its parent there.
func TestRemoveUp(t *testing.T) {
	row := highRow()
	for place := 5; place <= 8; place++ {
		h, _ := heapOf(t, 10, row...)
		want := moved(row[:9], map[int]heap.Item{1: row[9], place: row[1]})
		checkRemove(t, h, row[place].Id, row[place], api.OK, want)
	}
	h, _ := heapOf(t, 10, row...)
	checkRemove(t, h, row[1].Id, row[1], api.OK, moved(row[:9], map[int]heap.Item{1: row[9]}))
	h, _ = heapOf(t, 10, row...)
	checkRemove(t, h, row[2].Id, row[2], api.OK, moved(row[:9], map[int]heap.Item{2: row[9]}))
	h, _ = heapOf(t, 10, row...)
	checkRemove(t, h, row[0].Id, row[0], api.OK, moved(row[:9], map[int]heap.Item{0: row[2], 2: row[9]}))
}

// P13.3: of one At, the Seq, and then the Id tell whether the last one goes up.
func TestRemoveOfOneAt(t *testing.T) {
	for _, way := range []struct {
		id, seq uint64
		up      bool
	}{{99, 0, true}, {99, 1, true}, {99, 2, false}, {1, 2, true}, {1, 3, false}} {
		row := highRow()
		row[1] = heap.Item{Id: 50, Seq: 2, At: 20}
		row[0].Id = 51
		row[9] = heap.Item{Id: way.id, Seq: way.seq, At: 20}
		h, _ := heapOf(t, 10, row...)
		want := moved(row[:9], map[int]heap.Item{6: row[9]})
		if way.up {
			want = moved(row[:9], map[int]heap.Item{1: row[9], 6: row[1]})
		}
		checkRemove(t, h, row[6].Id, row[6], api.OK, want)
	}
}

// P13.3: the only one, the first of two, the last of two.
func TestRemoveOfFew(t *testing.T) {
	one, two := heap.Item{Id: 0, Seq: 7, At: -3}, heap.Item{Id: math.MaxUint64, Seq: 2, At: 3}
	h, _ := heapOf(t, 3, one)
	checkRemove(t, h, 0, one, api.OK, nil)
	checkRemove(t, h, 0, heap.Item{}, api.ErrNone, nil)
	h, _ = heapOf(t, 3, one, two)
	checkRemove(t, h, 0, one, api.OK, []heap.Item{two})
	checkRemove(t, h, math.MaxUint64, two, api.OK, nil)
	h, _ = heapOf(t, 3, one, two)
	checkRemove(t, h, math.MaxUint64, two, api.OK, []heap.Item{one})
	checkRemove(t, h, 0, one, api.OK, nil)
	for many := range 7 {
		for id := range uint64(many + 2) {
			h, m := heapOf(t, max(many, 1), inOrder(many)...)
			gone, _, e := m.remove(id)
			checkRemove(t, h, id, gone, e, m.row)
		}
	}
}

// P13.3: Remove of an Id that is not there changes nothing.
func TestRemoveWrong(t *testing.T) {
	h := made(t, 22)
	checkRemove(t, h, 0, heap.Item{}, api.ErrNone, nil)
	row := inOrder(22)
	h, _ = heapOf(t, 22, row...)
	for _, id := range []uint64{0, 23, 24, 1 << 32, 1<<32 + 1, math.MaxUint64} {
		checkRemove(t, h, id, heap.Item{}, api.ErrNone, row)
	}
}

// P13.3: Pop takes the first one out, and nothing of an empty heap.
func TestPopByHand(t *testing.T) {
	h := made(t, 1)
	checkPop(t, h, heap.Item{}, api.ErrNone, nil)
	one := heap.Item{Id: 0, Seq: 0, At: 0}
	checkPush(t, h, one, api.OK, []heap.Item{one})
	checkPop(t, h, one, api.OK, nil)
	checkPop(t, h, heap.Item{}, api.ErrNone, nil)
	checkNotFound(t, h, 0)

	row := inOrder(6)
	h, _ = heapOf(t, 6, row...)
	checkPop(t, h, row[0], api.OK, []heap.Item{row[1], row[5], row[2], row[3], row[4]})
	checkPop(t, h, row[1], api.OK, []heap.Item{row[2], row[5], row[4], row[3]})
	checkPop(t, h, row[2], api.OK, []heap.Item{row[3], row[5], row[4]})
	checkPop(t, h, row[3], api.OK, []heap.Item{row[4], row[5]})
	checkPop(t, h, row[4], api.OK, []heap.Item{row[5]})
	checkPop(t, h, row[5], api.OK, nil)
	checkPop(t, h, heap.Item{}, api.ErrNone, nil)

	row = inOrder(22)
	h, _ = heapOf(t, 22, row...)
	checkPop(t, h, row[0], api.OK, moved(row[:21], map[int]heap.Item{0: row[1], 1: row[5], 5: row[21]}))
}

// P13.3: heaps of chance, whose items are removed one by one; what takes their place goes up, down, and stays.
func TestRemove(t *testing.T) {
	chance := rand.New(rand.NewPCG(133, 1))
	went, told := map[int]int{}, map[api.Errno]int{}
	for range 300 {
		var items []heap.Item
		for range 1 + chance.IntN(60) {
			items = append(items, someItem(chance, 60))
		}
		h, m := heapOf(t, 60, items...)
		for h.Len() > 0 {
			id := chance.Uint64N(60)
			gone, way, e := m.remove(id)
			went[way]++
			told[e]++
			checkRemove(t, h, id, gone, e, m.row)
		}
	}
	if min(went[1], went[0], went[-1], told[api.OK], told[api.ErrNone]) < 100 {
		t.Fatalf("went %v, told %v", went, told)
	}
}
