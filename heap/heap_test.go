package heap_test

import (
	"math"
	"math/rand/v2"
	"slices"
	"testing"

	"ephemeris/api"
	"ephemeris/heap"
)

const greatest = 1 << 20 // a heap's size

// model is what a heap has to hold: a row, in which all is looked for one by one.
type model struct {
	size int
	row  []heap.Item
}

// before is what Ahead has to tell.
func before(a, b heap.Item) bool {
	if a.At != b.At {
		return a.At < b.At
	}
	if a.Seq != b.Seq {
		return a.Seq < b.Seq
	}
	return a.Id < b.Id
}

// place is where the item of that Id is, -1 if there is none.
func (m *model) place(id uint64) int {
	return slices.IndexFunc(m.row, func(x heap.Item) bool { return x.Id == id })
}

// up lets an item go up, and tells where it is then.
func (m *model) up(place int) int {
	if place == 0 {
		return 0
	}
	parent := (place - 1) / 4
	if !before(m.row[place], m.row[parent]) {
		return place
	}
	m.row[place], m.row[parent] = m.row[parent], m.row[place]
	return m.up(parent)
}

// down lets an item go down, and tells where it is then.
func (m *model) down(place int) int {
	var family []int
	for child := 4*place + 1; child <= 4*place+4 && child < len(m.row); child++ {
		family = append(family, child)
	}
	slices.SortFunc(family, func(a, b int) int {
		if before(m.row[a], m.row[b]) {
			return -1
		}
		return 1
	})
	if len(family) == 0 || !before(m.row[family[0]], m.row[place]) {
		return place
	}
	m.row[place], m.row[family[0]] = m.row[family[0]], m.row[place]
	return m.down(family[0])
}

// settle is what becomes of an item that is changed: 1 if it goes up, -1 if down, 0 if it stays.
func (m *model) settle(place int) int {
	if m.up(place) != place {
		return 1
	}
	if m.down(place) != place {
		return -1
	}
	return 0
}

func (m *model) push(x heap.Item) api.Errno {
	if m.place(x.Id) >= 0 {
		return api.ErrThere
	}
	if len(m.row) == m.size {
		return api.ErrFull
	}
	m.row = append(m.row, x)
	m.up(len(m.row) - 1)
	return api.OK
}

func (m *model) set(x heap.Item) (int, api.Errno) {
	place := m.place(x.Id)
	if place < 0 {
		return 0, api.ErrNone
	}
	m.row[place] = x
	return m.settle(place), api.OK
}

func (m *model) remove(id uint64) (heap.Item, int, api.Errno) {
	place := m.place(id)
	if place < 0 {
		return heap.Item{}, 0, api.ErrNone
	}
	gone := m.row[place]
	last := len(m.row) - 1
	m.row[place] = m.row[last]
	m.row = m.row[:last]
	if place == last {
		return gone, 0, api.OK
	}
	return gone, m.settle(place), api.OK
}

func (m *model) pop() (heap.Item, api.Errno) {
	if len(m.row) == 0 {
		return heap.Item{}, api.ErrNone
	}
	gone, _, e := m.remove(m.row[0].Id)
	return gone, e
}

// checkRow holds all that a heap tells of its items against their row.
func checkRow(t *testing.T, h *heap.Heap, want []heap.Item) {
	t.Helper()
	if got := h.Row(); !slices.Equal(got, want) || h.Len() != len(want) {
		t.Fatalf("Row is %v, Len %d; want %v", got, h.Len(), want)
	}
	var least heap.Item
	if len(want) > 0 {
		least = want[0]
	}
	if x, ok := h.Min(); x != least || ok != (len(want) > 0) {
		t.Fatalf("of %v: Min is %v, %t", want, x, ok)
	}
	for place, item := range want {
		checkFind(t, h, item.Id, item, place, true)
	}
}

// checkFind holds one Find.
func checkFind(t *testing.T, h *heap.Heap, id uint64, item heap.Item, place int, ok bool) {
	t.Helper()
	if x, at, is := h.Find(id); x != item || at != place || is != ok {
		t.Fatalf("Find(%d) is %v, %d, %t; want %v, %d, %t", id, x, at, is, item, place, ok)
	}
}

// checkNotFound holds that there is no item of that Id.
func checkNotFound(t *testing.T, h *heap.Heap, ids ...uint64) {
	t.Helper()
	for _, id := range ids {
		checkFind(t, h, id, heap.Item{}, 0, false)
	}
}

// checkPush holds one Push, and the row behind it.
func checkPush(t *testing.T, h *heap.Heap, x heap.Item, e api.Errno, want []heap.Item) {
	t.Helper()
	if got := h.Push(x); got != e {
		t.Fatalf("Push(%v) = %d; want %d", x, got, e)
	}
	checkRow(t, h, want)
}

// checkSet holds one Set, and the row behind it.
func checkSet(t *testing.T, h *heap.Heap, x heap.Item, e api.Errno, want []heap.Item) {
	t.Helper()
	if got := h.Set(x); got != e {
		t.Fatalf("Set(%v) = %d; want %d", x, got, e)
	}
	checkRow(t, h, want)
}

// checkRemove holds one Remove, and the row behind it.
func checkRemove(t *testing.T, h *heap.Heap, id uint64, gone heap.Item, e api.Errno, want []heap.Item) {
	t.Helper()
	if x, got := h.Remove(id); x != gone || got != e {
		t.Fatalf("Remove(%d) = %v, %d; want %v, %d", id, x, got, gone, e)
	}
	checkRow(t, h, want)
	checkNotFound(t, h, id)
}

// checkPop holds one Pop, and the row behind it.
func checkPop(t *testing.T, h *heap.Heap, gone heap.Item, e api.Errno, want []heap.Item) {
	t.Helper()
	if x, got := h.Pop(); x != gone || got != e {
		t.Fatalf("Pop() = %v, %d; want %v, %d", x, got, gone, e)
	}
	checkRow(t, h, want)
}

// made is a new heap of that size.
func made(t *testing.T, size int) *heap.Heap {
	t.Helper()
	h, e := heap.New(size)
	if h == nil || e != api.OK {
		t.Fatalf("New(%d) = %p, %d", size, h, e)
	}
	checkRow(t, h, nil)
	return h
}

// heapOf is a heap of that size, to which the items were pushed one by one, and its model.
func heapOf(t *testing.T, size int, items ...heap.Item) (*heap.Heap, *model) {
	t.Helper()
	h, m := made(t, size), &model{size: size}
	for _, x := range items {
		e := m.push(x)
		checkPush(t, h, x, e, m.row)
	}
	return h, m
}

// inOrder are so many items that stand in the order of their Ids, 1 and so on, when they are pushed: At is 10 times the place.
func inOrder(many int) []heap.Item {
	var list []heap.Item
	for place := range many {
		list = append(list, heap.Item{Id: uint64(place + 1), Seq: 1, At: int64(10 * place)})
	}
	return list
}

// moved is a row of which some places have another item.
func moved(row []heap.Item, at map[int]heap.Item) []heap.Item {
	other := slices.Clone(row)
	for place, x := range at {
		other[place] = x
	}
	return other
}

// someItem is an item of chance; of few values, so that many are as others, or of all that there are.
func someItem(chance *rand.Rand, ids uint64) heap.Item {
	x := heap.Item{Id: chance.Uint64N(ids)}
	switch chance.IntN(3) {
	case 0:
		x.Seq, x.At = chance.Uint64N(2), chance.Int64N(3)-1
	case 1:
		x.Seq, x.At = chance.Uint64N(4), chance.Int64N(100)-50
	default:
		ends := []int64{math.MinInt64, -1, 0, 1, math.MaxInt64, chance.Int64(), -chance.Int64()}
		x.Seq, x.At = uint64(ends[chance.IntN(len(ends))]), ends[chance.IntN(len(ends))]
	}
	return x
}

// P13.1 to P13.3: the chapter's examples.
func TestExamples(t *testing.T) {
	one, two, three := heap.Item{Id: 1, At: 9}, heap.Item{Id: 2, At: 5}, heap.Item{Id: 3, At: 7}
	h := made(t, 3)
	checkPush(t, h, one, api.OK, []heap.Item{one})
	checkPush(t, h, two, api.OK, []heap.Item{two, one})
	checkPush(t, h, three, api.OK, []heap.Item{two, one, three})
	one.At = 4
	checkSet(t, h, one, api.OK, []heap.Item{one, two, three})
	checkPop(t, h, one, api.OK, []heap.Item{two, three})
	checkPush(t, h, heap.Item{Id: 3, At: 1}, api.ErrThere, []heap.Item{two, three})
	checkRemove(t, h, 8, heap.Item{}, api.ErrNone, []heap.Item{two, three})
}

// P13.1: a heap has a size from 1 to 2^20; what it has room for is told by Push.
func TestNew(t *testing.T) {
	for _, size := range []int{math.MinInt, math.MinInt + 1, -greatest, -2, -1, 0, greatest + 1, greatest + 2, 2 * greatest, 1<<32 + 1, 1<<40 + 5, math.MaxInt - 1, math.MaxInt} {
		if h, e := heap.New(size); h != nil || e != api.ErrArg {
			t.Errorf("New(%d) = %p, %d", size, h, e)
		}
	}
	for _, size := range []int{1, 2, 3, 4, 5, 6, 20, 21, 22, 100} {
		items := inOrder(size + 1)
		h, _ := heapOf(t, size, items[:size]...)
		checkPush(t, h, items[size], api.ErrFull, items[:size])
	}
	for _, size := range []int{1000, greatest / 2, greatest - 1, greatest} {
		made(t, size)
	}
}

// P13.1, P13.2: the greatest heap takes 2^20 items, and not one more; its first ones come in order.
func TestGreatest(t *testing.T) {
	chance := rand.New(rand.NewPCG(131, 1))
	h := made(t, greatest)
	var all []int64
	for id := range uint64(greatest) {
		x := heap.Item{Id: id, At: chance.Int64N(greatest)}
		all = append(all, x.At)
		if e := h.Push(x); e != api.OK {
			t.Fatalf("Push(%v) = %d", x, e)
		}
	}
	if h.Push(heap.Item{Id: greatest}) != api.ErrFull || h.Push(heap.Item{Id: greatest - 1}) != api.ErrThere || h.Len() != greatest {
		t.Fatalf("a full heap takes more, or has %d items", h.Len())
	}
	slices.Sort(all)
	for _, at := range all[:20_000] {
		if x, e := h.Pop(); x.At != at || e != api.OK {
			t.Fatalf("Pop() = %v, %d; want one at %d", x, e, at)
		}
	}
	if h.Push(heap.Item{Id: greatest}) != api.OK || h.Len() != greatest-20_000+1 {
		t.Fatalf("a heap that has room takes none, or has %d items", h.Len())
	}
}

// P13.1, P13.2, P13.3: a heap that New did not make, and none, has nothing, and tells so ahead of all other errors.
func TestNotMade(t *testing.T) {
	var none *heap.Heap
	for _, h := range []*heap.Heap{none, new(heap.Heap)} {
		for range 2 {
			for _, x := range []heap.Item{{}, {Id: 1, Seq: 2, At: 3}, {Id: math.MaxUint64, Seq: math.MaxUint64, At: math.MinInt64}} {
				checkPush(t, h, x, api.ErrNil, nil)
				checkPush(t, h, x, api.ErrNil, nil)
				checkSet(t, h, x, api.ErrNil, nil)
				checkRemove(t, h, x.Id, heap.Item{}, api.ErrNil, nil)
				checkNotFound(t, h, x.Id)
			}
			checkPop(t, h, heap.Item{}, api.ErrNil, nil)
			if other := h.Copy(); other != nil {
				t.Fatalf("Copy of none is %p", other)
			}
		}
	}
}

// P13.1: a copy has the same, and its size; what is done to one is not done to the other.
func TestCopyByHand(t *testing.T) {
	items := inOrder(6)
	h, _ := heapOf(t, 7, items...)
	other := h.Copy()
	if other == nil || other == h {
		t.Fatalf("Copy of %p is %p", h, other)
	}
	checkRow(t, other, items)

	first := heap.Item{Id: 9, At: -1}
	after := []heap.Item{first, items[0], items[2], items[3], items[4], items[5], items[1]}
	checkPush(t, h, first, api.OK, after)
	checkRow(t, other, items)
	checkNotFound(t, other, 9)

	last := heap.Item{Id: 8, At: 1000}
	behind := append(slices.Clone(items), last)
	checkPush(t, other, last, api.OK, behind)
	checkPush(t, other, heap.Item{Id: 7}, api.ErrFull, behind)
	checkRow(t, h, after)
	checkNotFound(t, h, 8)

	checkSet(t, other, heap.Item{Id: 8, At: 1001}, api.OK, append(slices.Clone(items), heap.Item{Id: 8, At: 1001}))
	checkRow(t, h, after)
	checkRemove(t, h, 9, first, api.OK, []heap.Item{items[0], items[1], items[2], items[3], items[4], items[5]})
	checkFind(t, other, 1, items[0], 0, true)
	checkFind(t, other, 2, items[1], 1, true)
	checkPop(t, other, items[0], api.OK, []heap.Item{items[1], items[5], items[2], items[3], items[4], {Id: 8, At: 1001}})
	checkRow(t, h, items)
}

// P13.1: a copy of an empty heap, of a full one, and of one that was emptied, goes on as that would.
func TestCopyOfEnds(t *testing.T) {
	empty := made(t, 1)
	other := empty.Copy()
	checkRow(t, other, nil)
	checkPush(t, other, heap.Item{Id: 1}, api.OK, []heap.Item{{Id: 1}})
	checkRow(t, empty, nil)
	checkNotFound(t, empty, 1)

	full := other.Copy()
	checkPush(t, full, heap.Item{Id: 2}, api.ErrFull, []heap.Item{{Id: 1}})
	checkPop(t, other, heap.Item{Id: 1}, api.OK, nil)
	checkRow(t, full, []heap.Item{{Id: 1}})

	emptied := other.Copy()
	checkPush(t, emptied, heap.Item{Id: 3}, api.OK, []heap.Item{{Id: 3}})
	checkPush(t, other, heap.Item{Id: 4}, api.OK, []heap.Item{{Id: 4}})
	checkRow(t, emptied, []heap.Item{{Id: 3}})
	checkPush(t, emptied, heap.Item{Id: 5}, api.ErrFull, []heap.Item{{Id: 3}})
}

// P13.1: heaps and their copies, and copies of these, each against a model of its own.
func TestCopies(t *testing.T) {
	chance := rand.New(rand.NewPCG(131, 2))
	h, m := heapOf(t, 30)
	heaps, models := []*heap.Heap{h}, []*model{m}
	for range 2000 {
		n := chance.IntN(len(heaps))
		if len(heaps) < 12 && chance.IntN(10) == 0 {
			heaps = append(heaps, heaps[n].Copy())
			models = append(models, &model{size: 30, row: slices.Clone(models[n].row)})
			continue
		}
		doOne(t, chance, heaps[n], models[n], 40)
		for i, other := range heaps {
			checkRow(t, other, models[i].row)
		}
	}
	if len(heaps) < 12 {
		t.Fatalf("only %d heaps", len(heaps))
	}
}

// P13.1: a row that was told stays, whatever becomes of the heap, and the heap stays, whatever becomes of the row.
func TestRowApart(t *testing.T) {
	items := inOrder(22)
	h, _ := heapOf(t, 30, items...)
	row, again := h.Row(), h.Row()
	for i := range row {
		row[i] = heap.Item{Id: 77, Seq: 77, At: -77}
	}
	row = append(row[:5], heap.Item{Id: 78})
	if !slices.Equal(again, items) {
		t.Fatalf("two rows share their items: %v", again)
	}
	checkRow(t, h, items)
	checkNotFound(t, h, 77, 78)

	_ = append(again[:22], heap.Item{Id: 79, At: -1})
	checkPush(t, h, heap.Item{Id: 80, At: 220}, api.OK, append(slices.Clone(items), heap.Item{Id: 80, At: 220}))
	h.Set(heap.Item{Id: 1, At: 500})
	h.Remove(2)
	for h.Len() > 0 {
		h.Pop()
	}
	if !slices.Equal(again, items) {
		t.Fatalf("a row that was told has changed: %v", again)
	}
}

// P13.1: Find of what was never there, of what was there and is gone, and of what came again.
func TestFindByHand(t *testing.T) {
	h := made(t, 4)
	checkNotFound(t, h, 0, 1, math.MaxUint64)
	none, last := heap.Item{Id: 0, Seq: 3, At: 5}, heap.Item{Id: math.MaxUint64, Seq: 4, At: 6}
	checkPush(t, h, none, api.OK, []heap.Item{none})
	checkNotFound(t, h, 1, math.MaxUint64)
	checkPush(t, h, last, api.OK, []heap.Item{none, last})
	checkNotFound(t, h, 1, math.MaxUint64-1, 1<<63, math.MaxUint32)

	checkPop(t, h, none, api.OK, []heap.Item{last})
	checkNotFound(t, h, 0)
	again := heap.Item{Id: 0, Seq: 1, At: 7}
	checkPush(t, h, again, api.OK, []heap.Item{last, again})
	checkRemove(t, h, math.MaxUint64, last, api.OK, []heap.Item{again})
	checkRemove(t, h, 0, again, api.OK, nil)
	checkNotFound(t, h, 0, 1, math.MaxUint64)
	checkPush(t, h, last, api.OK, []heap.Item{last})
}
