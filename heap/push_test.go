package heap_test

import (
	"math"
	"math/rand/v2"
	"slices"
	"testing"

	"ephemeris/api"
	"ephemeris/heap"
)

// idsOf are the Ids of a row.
func idsOf(row []heap.Item) []uint64 {
	var ids []uint64
	for _, x := range row {
		ids = append(ids, x.Id)
	}
	return ids
}

// P13.2: items of Ids 1 and so on, pushed at these instants, stand in the row so.
func TestPushByHand(t *testing.T) {
	for _, way := range []struct {
		at  []int64
		ids []uint64
	}{
		{[]int64{5}, []uint64{1}},
		{[]int64{3, 5}, []uint64{1, 2}},
		{[]int64{5, 3}, []uint64{2, 1}},
		{[]int64{5, 5}, []uint64{1, 2}},
		{[]int64{5, 4, 3}, []uint64{3, 1, 2}},
		{[]int64{5, 4, 3, 2}, []uint64{4, 1, 2, 3}},
		{[]int64{1, 5, 4, 3, 2}, []uint64{1, 2, 3, 4, 5}},
		{[]int64{5, 4, 3, 2, 1}, []uint64{5, 1, 2, 3, 4}},
		{[]int64{2, 3, 4, 5, 6, 7}, []uint64{1, 2, 3, 4, 5, 6}},
		{[]int64{2, 4, 5, 6, 7, 3}, []uint64{1, 6, 3, 4, 5, 2}},
		{[]int64{2, 4, 5, 6, 7, 4}, []uint64{1, 2, 3, 4, 5, 6}},
		{[]int64{2, 4, 3, 3, 3, 3}, []uint64{1, 6, 3, 4, 5, 2}},
		{[]int64{2, 3, 4, 5, 6, 1}, []uint64{6, 1, 3, 4, 5, 2}},
		{[]int64{2, 3, 3, 3, 3, 2}, []uint64{1, 6, 3, 4, 5, 2}},
		{[]int64{0, 1, 2, 3, 4, 9, 9, 9, 9, 1}, []uint64{1, 2, 10, 4, 5, 6, 7, 8, 9, 3}},
		{[]int64{-1, -2, math.MinInt64, math.MaxInt64, 0}, []uint64{3, 1, 2, 4, 5}},
	} {
		h := made(t, len(way.at))
		for i, at := range way.at {
			if e := h.Push(heap.Item{Id: uint64(i + 1), At: at}); e != api.OK {
				t.Fatalf("Push at %d: %d", at, e)
			}
		}
		if got := idsOf(h.Row()); !slices.Equal(got, way.ids) {
			t.Errorf("pushed at %v: Row is %v; want %v", way.at, got, way.ids)
		}
	}
}

// P13.2: of one At the Seq tells, of one Seq the Id, whether an item goes up.
func TestPushOfOneAt(t *testing.T) {
	const most = math.MaxUint64
	for _, way := range []struct{ ahead, behind heap.Item }{
		{heap.Item{Id: 2, Seq: 1, At: 5}, heap.Item{Id: 1, Seq: 2, At: 5}},
		{heap.Item{Id: most, Seq: 0, At: 5}, heap.Item{Id: 0, Seq: most, At: 5}},
		{heap.Item{Id: 1, Seq: 2, At: 5}, heap.Item{Id: 2, Seq: 2, At: 5}},
		{heap.Item{Id: 0, Seq: most, At: 5}, heap.Item{Id: most, Seq: most, At: 5}},
		{heap.Item{Id: 2, Seq: 2, At: 4}, heap.Item{Id: 1, Seq: 1, At: 5}},
		{heap.Item{Id: most, Seq: most, At: math.MinInt64}, heap.Item{Id: 0, Seq: 0, At: math.MaxInt64}},
	} {
		h, _ := heapOf(t, 2, way.ahead)
		checkPush(t, h, way.behind, api.OK, []heap.Item{way.ahead, way.behind})
		h, _ = heapOf(t, 2, way.behind)
		checkPush(t, h, way.ahead, api.OK, []heap.Item{way.ahead, way.behind})
	}
}

// P13.2: in a heap of 20 to 22 items, the one at the end goes up past parents at places 4 and 5, and what is above them, as far as its At.
func TestPushFar(t *testing.T) {
	for _, way := range []struct {
		many int
		at   int64
		path []int // where it goes, from the end of the row on
	}{
		{19, 40, []int{19}}, {19, 39, []int{19, 4}}, {19, -1, []int{19, 4, 0}},
		{20, 40, []int{20}}, {20, 39, []int{20, 4}}, {20, 0, []int{20, 4}}, {20, 1, []int{20, 4}}, {20, -5, []int{20, 4, 0}},
		{21, 51, []int{21}}, {21, 50, []int{21}}, {21, 10, []int{21, 5}}, {21, 9, []int{21, 5, 1}}, {21, -1, []int{21, 5, 1, 0}},
		{21, 11, []int{21, 5}}, {21, 49, []int{21, 5}}, {21, math.MinInt64, []int{21, 5, 1, 0}}, {21, math.MaxInt64, []int{21}},
	} {
		items := inOrder(way.many)
		x := heap.Item{Id: 99, Seq: 1, At: way.at} // of one At it is behind, as its Id is greater
		want := append(slices.Clone(items), x)
		for i, place := range way.path[1:] {
			want[way.path[i]], want[place] = want[place], x
		}
		h, _ := heapOf(t, 22, items...)
		checkPush(t, h, x, api.OK, want)
	}
}

// P13.2: Push of an Id that is there is told ahead of a heap that is full; neither changes anything.
func TestPushWrong(t *testing.T) {
	for _, many := range []int{1, 2, 3, 4, 5, 6, 20, 21, 22} {
		items := inOrder(many)
		h, _ := heapOf(t, many, items...)
		for _, x := range items {
			checkPush(t, h, x, api.ErrThere, items)
			checkPush(t, h, heap.Item{Id: x.Id, At: -1}, api.ErrThere, items)
			checkPush(t, h, heap.Item{Id: x.Id, Seq: math.MaxUint64, At: math.MaxInt64}, api.ErrThere, items)
		}
		for _, id := range []uint64{0, uint64(many + 1), math.MaxUint64} {
			checkPush(t, h, heap.Item{Id: id, At: -1}, api.ErrFull, items)
			checkPush(t, h, heap.Item{Id: id, At: 1000}, api.ErrFull, items)
			checkNotFound(t, h, id)
		}
		roomy, _ := heapOf(t, many+1, items...)
		for _, x := range items {
			checkPush(t, roomy, heap.Item{Id: x.Id, At: -1}, api.ErrThere, items)
		}
		x := heap.Item{Id: 0, At: 1000}
		checkPush(t, roomy, x, api.OK, append(slices.Clone(items), x))
	}
}

// P13.2: a heap that was full takes another one when one is gone.
func TestPushAgain(t *testing.T) {
	h, _ := heapOf(t, 1, heap.Item{Id: 0, At: 3})
	checkPush(t, h, heap.Item{Id: 1, At: 2}, api.ErrFull, []heap.Item{{Id: 0, At: 3}})
	checkPop(t, h, heap.Item{Id: 0, At: 3}, api.OK, nil)
	checkPush(t, h, heap.Item{Id: 1, At: 2}, api.OK, []heap.Item{{Id: 1, At: 2}})
	checkPush(t, h, heap.Item{Id: 0, At: 3}, api.ErrFull, []heap.Item{{Id: 1, At: 2}})
	checkSet(t, h, heap.Item{Id: 1, At: 9}, api.OK, []heap.Item{{Id: 1, At: 9}})
	checkPush(t, h, heap.Item{Id: 1, At: 3}, api.ErrThere, []heap.Item{{Id: 1, At: 9}})
}

// P13.2: rows of chance, pushed one by one.
func TestPush(t *testing.T) {
	chance := rand.New(rand.NewPCG(132, 1))
	told := map[api.Errno]int{}
	for range 300 {
		h, m := heapOf(t, 1+chance.IntN(60))
		for range chance.IntN(80) {
			x := someItem(chance, 200)
			e := m.push(x)
			told[e]++
			checkPush(t, h, x, e, m.row)
		}
	}
	if min(told[api.OK], told[api.ErrThere], told[api.ErrFull]) < 100 {
		t.Fatalf("told only %v", told)
	}
}
