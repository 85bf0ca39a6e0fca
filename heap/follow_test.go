package heap_test

import (
	"cmp"
	"math/rand/v2"
	"slices"
	"testing"

	"ephemeris/api"
	"ephemeris/heap"
)

// doOne does one thing of chance to a heap and to its model, holds one against the other, and tells which, and its error.
func doOne(t *testing.T, chance *rand.Rand, h *heap.Heap, m *model, ids uint64) (string, api.Errno) {
	t.Helper()
	x := someItem(chance, ids)
	switch chance.IntN(8) {
	case 0, 1, 2:
		e := m.push(x)
		checkPush(t, h, x, e, m.row)
		return "push", e
	case 3, 4, 5:
		_, e := m.set(x)
		checkSet(t, h, x, e, m.row)
		return "set", e
	case 6:
		gone, _, e := m.remove(x.Id)
		checkRemove(t, h, x.Id, gone, e, m.row)
		return "remove", e
	default:
		gone, e := m.pop()
		checkPop(t, h, gone, e, m.row)
		return "pop", e
	}
}

// checkStands holds that no item is ahead of its parent, and that each is where Find tells.
func checkStands(t *testing.T, h *heap.Heap) {
	t.Helper()
	row := h.Row()
	for place, x := range row {
		if place > 0 && before(x, row[(place-1)/4]) {
			t.Fatalf("%v at %d is ahead of its parent %v", x, place, row[(place-1)/4])
		}
		checkFind(t, h, x.Id, x, place, true)
	}
	if len(row) == 0 {
		return
	}
	first, ok := h.Min()
	for _, x := range row {
		if !ok || x != first && !heap.Ahead(first, x) {
			t.Fatalf("Min is %v, %t, but there is %v", first, ok, x)
		}
	}
}

// P13.5: each item is where Find tells, and as it was set last, whatever was pushed, set, removed and popped; of the others there is none. No item is ahead of its parent.
func TestFound(t *testing.T) {
	chance := rand.New(rand.NewPCG(135, 1))
	type what struct {
		name string
		e    api.Errno
	}
	told := map[what]int{}
	for range 60 {
		ids := 1 + chance.Uint64N(60)
		h, m := heapOf(t, 1+chance.IntN(40))
		last := map[uint64]heap.Item{}
		for range 200 {
			name, e := doOne(t, chance, h, m, ids)
			told[what{name, e}]++
			checkStands(t, h)
			clear(last)
			for _, x := range m.row {
				last[x.Id] = x
			}
			for id := range ids {
				x, place, ok := h.Find(id)
				want, there := last[id]
				if x != want || ok != there || !ok && place != 0 {
					t.Fatalf("Find(%d) is %v, %d, %t; want %v, %t", id, x, place, ok, want, there)
				}
			}
		}
	}
	for _, w := range []what{{"push", api.OK}, {"push", api.ErrThere}, {"push", api.ErrFull}, {"set", api.OK}, {"set", api.ErrNone}, {"remove", api.OK}, {"remove", api.ErrNone}, {"pop", api.OK}, {"pop", api.ErrNone}} {
		if told[w] < 50 {
			t.Errorf("%s told %d only %d times", w.name, w.e, told[w])
		}
	}
}

// P13.4: the first one is ahead of all others; Pop again and again tells all items in order, also of a heap whose items were set and removed.
func TestPopAll(t *testing.T) {
	chance := rand.New(rand.NewPCG(134, 1))
	for many := range 120 {
		h, m := heapOf(t, max(many, 1))
		for m.size > len(m.row) && many > 0 {
			x := someItem(chance, 1000)
			m.push(x)
			h.Push(x)
		}
		for range many {
			doOne(t, chance, h, m, 1000)
		}
		want := slices.SortedFunc(slices.Values(m.row), func(a, b heap.Item) int {
			return cmp.Or(cmp.Compare(a.At, b.At), cmp.Compare(a.Seq, b.Seq), cmp.Compare(a.Id, b.Id))
		})
		for n, x := range want {
			checkStands(t, h)
			if first, ok := h.Min(); first != x || !ok {
				t.Fatalf("Min() = %v, %t; want %v", first, ok, x)
			}
			if first, e := h.Pop(); first != x || e != api.OK || h.Len() != len(want)-n-1 {
				t.Fatalf("Pop() = %v, %d, %d are left; want %v", first, e, h.Len(), x)
			}
		}
		checkPop(t, h, heap.Item{}, api.ErrNone, nil)
	}
}

// P13.4: whatever order they are pushed in, a few items come in theirs.
func TestEveryOrder(t *testing.T) {
	items := []heap.Item{{Id: 3, Seq: 0, At: -1}, {Id: 0, Seq: 0, At: 0}, {Id: 6, Seq: 0, At: 0}, {Id: 1, Seq: 1, At: 0}, {Id: 2, Seq: 1, At: 0}, {Id: 4, Seq: 0, At: 1}, {Id: 5, Seq: 0, At: 2}}
	many := 0
	var all func(order []heap.Item, left []heap.Item)
	all = func(order []heap.Item, left []heap.Item) {
		for i, x := range left {
			all(append(slices.Clone(order), x), slices.Delete(slices.Clone(left), i, i+1))
		}
		if len(left) > 0 {
			return
		}
		many++
		h, _ := heap.New(len(items))
		for _, x := range order {
			h.Push(x)
		}
		for _, x := range items {
			if first, e := h.Pop(); first != x || e != api.OK {
				t.Fatalf("pushed as %v: Pop() = %v, %d; want %v", order, first, e, x)
			}
		}
	}
	all(nil, items)
	if many != 5040 {
		t.Fatalf("only %d orders", many)
	}
}
