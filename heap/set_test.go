package heap_test

import (
	"math"
	"math/rand/v2"
	"slices"
	"testing"

	"ephemeris/api"
	"ephemeris/heap"
)

// P13.2: what is set in a heap of 22, whose places 0, 1, 5 and 21 stand one above the other; at each place At is 10 times as much.
func TestSetByHand(t *testing.T) {
	row := inOrder(22)
	for _, way := range []struct {
		name  string
		place int
		seq   uint64
		at    int64
		path  []int // where the item goes, from its place on
	}{
		{"to the same", 0, 1, 0, []int{0}},
		{"to the same, within", 5, 1, 50, []int{5}},
		{"to the same, at the end", 21, 1, 210, []int{21}},
		{"the first, ahead of all", 0, 1, -7, []int{0}},
		{"the first, as its first child, but of less a Seq", 0, 0, 10, []int{0}},
		{"the first, as its first child, but of less an Id", 0, 1, 10, []int{0}},
		{"the first, behind its first child by a Seq", 0, 2, 10, []int{0, 1}},
		{"the first, behind one child", 0, 1, 11, []int{0, 1}},
		{"the first, behind two children", 0, 1, 25, []int{0, 1}},
		{"the first, behind three", 0, 1, 35, []int{0, 1}},
		{"the first, behind four", 0, 1, 45, []int{0, 1}},
		{"the first, behind one further down", 0, 1, 51, []int{0, 1, 5}},
		{"the first, all the way", 0, 1, 211, []int{0, 1, 5, 21}},
		{"the first, all the way, at the end of time", 0, math.MaxUint64, math.MaxInt64, []int{0, 1, 5, 21}},
		{"the first, to before the last", 0, 1, 209, []int{0, 1, 5}},
		{"the second, ahead of its parent", 1, 1, -1, []int{1, 0}},
		{"the second, as its parent, but of less a Seq", 1, 0, 0, []int{1, 0}},
		{"the second, as its parent, but of greater an Id", 1, 1, 0, []int{1}},
		{"the second, behind one child", 1, 1, 55, []int{1, 5}},
		{"the second, behind all its children", 1, 1, 100, []int{1, 5}},
		{"the second, all the way", 1, 1, 300, []int{1, 5, 21}},
		{"the third, behind its children", 2, 1, 91, []int{2, 9}},
		{"the third, behind all below it", 2, 1, 300, []int{2, 9}},
		{"the third, ahead of what is beside it", 2, 1, 5, []int{2}},
		{"the fourth, behind its children", 3, 1, 131, []int{3, 13}},
		{"the fourth, behind two of them", 3, 1, 145, []int{3, 13}},
		{"the fifth, behind its children", 4, 1, 201, []int{4, 17}},
		{"the fifth, ahead of its parent", 4, 1, -1, []int{4, 0}},
		{"one with one child, behind it", 5, 1, 211, []int{5, 21}},
		{"one with one child, as it, but of less an Id", 5, 1, 210, []int{5}},
		{"one with one child, ahead of its parent", 5, 1, 9, []int{5, 1}},
		{"one with one child, ahead of all", 5, 1, -1, []int{5, 1, 0}},
		{"one with no child, behind all", 6, 1, 1000, []int{6}},
		{"one with no child, ahead of its parent", 12, 1, 19, []int{12, 2}},
		{"one with no child, ahead of all", 20, 1, math.MinInt64, []int{20, 4, 0}},
		{"the last, behind all", 21, 1, 1000, []int{21}},
		{"the last, ahead of its parent", 21, 1, 49, []int{21, 5}},
		{"the last, ahead of two", 21, 1, 9, []int{21, 5, 1}},
		{"the last, ahead of all", 21, 1, -1, []int{21, 5, 1, 0}},
	} {
		x := heap.Item{Id: row[way.place].Id, Seq: way.seq, At: way.at}
		want := moved(row, map[int]heap.Item{way.place: x})
		for i, place := range way.path[1:] {
			want[way.path[i]], want[place] = want[place], x
		}
		t.Run(way.name, func(t *testing.T) {
			h, _ := heapOf(t, 22, row...)
			checkSet(t, h, x, api.OK, want)
		})
	}
}

// P13.2: an item goes down to that child that is ahead of all others, whichever it is, and whatever tells it; how many children there are does not matter.
func TestSetAmongChildren(t *testing.T) {
	ahead := []heap.Item{{At: 49, Seq: 9}, {At: 50, Seq: 4, Id: 90}, {At: 50, Seq: 5, Id: 1}}
	for many := 1; many <= 4; many++ {
		for least := 1; least <= many; least++ {
			for _, x := range ahead {
				x.Id += uint64(least * 100)
				row := []heap.Item{{Id: 1}}
				for place := 1; place <= many; place++ {
					row = append(row, heap.Item{Id: uint64(place*100 + 50), Seq: 5, At: 50})
				}
				row[least] = x
				wantLeast := least
				if x.At == 50 && x.Seq == 5 { // then the least Id is ahead
					wantLeast = 1
				}
				h, _ := heapOf(t, 5, row...)
				first := heap.Item{Id: 1, Seq: 7, At: 50}
				want := moved(row, map[int]heap.Item{0: row[wantLeast], wantLeast: first})
				checkSet(t, h, first, api.OK, want)
			}
		}
	}
}

// P13.2: children at one instant, of one Seq: the one with the least Id is ahead, wherever it stands.
func TestSetAmongSame(t *testing.T) {
	for _, ids := range [][]uint64{{5, 4, 3, 2}, {2, 3, 4, 5}, {4, 2, 5, 3}, {4, 5, 3, 0}, {math.MaxUint64, 3, 2, 4}} {
		row := []heap.Item{{Id: 1, At: 1}}
		least := 1
		for i, id := range ids {
			row = append(row, heap.Item{Id: id, Seq: 3, At: 8})
			if id == slices.Min(ids) {
				least = i + 1
			}
		}
		h, _ := heapOf(t, 5, row...)
		first := heap.Item{Id: 1, Seq: 4, At: 8}
		checkSet(t, h, first, api.OK, moved(row, map[int]heap.Item{0: row[least], least: first}))
	}
}

// P13.2: Set of an Id that is not there changes nothing; so also in an empty heap, and of one that is gone.
func TestSetWrong(t *testing.T) {
	h := made(t, 22)
	checkSet(t, h, heap.Item{}, api.ErrNone, nil)
	checkSet(t, h, heap.Item{Id: 1}, api.ErrNone, nil)
	row := inOrder(22)
	h, _ = heapOf(t, 22, row...)
	for _, id := range []uint64{0, 23, 24, math.MaxUint64, 1 << 32, 1<<32 + 1} {
		checkSet(t, h, heap.Item{Id: id, At: -1}, api.ErrNone, row)
		checkNotFound(t, h, id)
	}
	checkRemove(t, h, 22, row[21], api.OK, row[:21])
	checkSet(t, h, row[21], api.ErrNone, row[:21])
	checkPush(t, h, row[21], api.OK, row)
	checkSet(t, h, row[21], api.OK, row)
}

// P13.2: in a heap of no item to six, and of one that is full, each is set to all instants there are.
func TestSetOfFew(t *testing.T) {
	for many := range 7 {
		for id := range uint64(many + 2) {
			for at := int64(-5); at < int64(10*many+5); at += 5 {
				for seq := range uint64(3) {
					h, m := heapOf(t, max(many, 1), inOrder(many)...)
					x := heap.Item{Id: id, Seq: seq, At: at}
					_, e := m.set(x)
					checkSet(t, h, x, e, m.row)
				}
			}
		}
	}
}

// P13.2: heaps of chance, whose items are set again and again.
func TestSet(t *testing.T) {
	chance := rand.New(rand.NewPCG(132, 2))
	went, told := map[int]int{}, map[api.Errno]int{}
	for range 100 {
		h, m := heapOf(t, 1+chance.IntN(60))
		for range 60 {
			m.push(someItem(chance, 80))
		}
		for _, x := range m.row { // it stands so: no parent is behind, so none goes up
			h.Push(x)
		}
		checkRow(t, h, m.row)
		for range 60 {
			x := someItem(chance, 80)
			way, e := m.set(x)
			went[way]++
			told[e]++
			checkSet(t, h, x, e, m.row)
		}
	}
	if min(went[1], went[0], went[-1], told[api.OK], told[api.ErrNone]) < 100 {
		t.Fatalf("went %v, told %v", went, told)
	}
}
