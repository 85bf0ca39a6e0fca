package mac_test

import (
	"math"
	"math/rand/v2"
	"slices"
	"testing"

	"ephemeris/api"
	"ephemeris/mac"
)

// severalKeys are keys of chance, with so many Ids that are not 0, each another one.
func severalKeys(chance *rand.Rand, many int) []api.Key {
	var list []api.Key
	for len(list) < many {
		id := chance.Uint32()
		if id != 0 && !slices.ContainsFunc(list, func(k api.Key) bool { return k.Id == id }) {
			list = append(list, api.Key{Id: id, A: chance.Uint64(), B: chance.Uint64()})
		}
	}
	return list
}

// checkTable holds what a table tells against its keys, and that it tells of no others.
func checkTable(t *testing.T, table *mac.Table, l []api.Key) {
	t.Helper()
	if table.Len() != len(l) {
		t.Fatalf("table of %x: Len() = %d", l, table.Len())
	}
	for _, k := range l {
		if got, ok := table.Find(k.Id); got != k || !ok {
			t.Fatalf("table of %x: Find(%x) = %x, %t", l, k.Id, got, ok)
		}
		for bit := range 32 {
			checkFind(t, table, k.Id^1<<bit, l)
		}
	}
	for id := range uint32(70) {
		checkFind(t, table, id, l)
	}
	for _, id := range []uint32{255, 256, 65535, 65536, math.MaxInt32, 1 << 31, math.MaxUint32 - 1, math.MaxUint32} {
		checkFind(t, table, id, l)
	}
}

// checkFind holds one call of Find against a look through the list.
func checkFind(t *testing.T, table *mac.Table, id uint32, l []api.Key) {
	t.Helper()
	var right api.Key
	there := false
	for _, k := range l {
		if k.Id == id {
			right, there = k, true
		}
	}
	if got, ok := table.Find(id); got != right || ok != there {
		t.Fatalf("table of %x: Find(%x) = %x, %t", l, id, got, ok)
	}
}

// checkMade makes a table of the keys, which may be, and holds what it tells against them.
func checkMade(t *testing.T, l []api.Key) *mac.Table {
	t.Helper()
	given := slices.Clone(l)
	table, e := mac.New(given)
	if table == nil || e != api.OK || !slices.Equal(given, l) {
		t.Fatalf("New(%x) = %v, %d, and left %x", l, table, e, given)
	}
	checkTable(t, table, l)
	return table
}

// checkRefused holds that there is no table of the keys, but that error, and that they stay.
func checkRefused(t *testing.T, l []api.Key, e api.Errno) {
	t.Helper()
	given := slices.Clone(l)
	if table, got := mac.New(given); table != nil || got != e || !slices.Equal(given, l) {
		t.Fatalf("New(%x) = %v, %d; want %d; and left %x", l, table, got, e, given)
	}
}

// P6.2: of no keys there is a table too, which has none.
func TestNewOfNone(t *testing.T) {
	checkMade(t, nil)
	checkMade(t, []api.Key{})
}

// P6.2: from no keys to MaxKeys, whatever their Ids and their order.
func TestNew(t *testing.T) {
	chance := rand.New(rand.NewPCG(31, 256))
	if api.MaxKeys != 16 {
		t.Fatalf("MaxKeys %d", api.MaxKeys)
	}
	for many := range 17 {
		for range 20 {
			checkMade(t, severalKeys(chance, many))
		}
		var rising []api.Key
		for i := range many {
			rising = append(rising, api.Key{Id: uint32(i + 1), A: uint64(i), B: chance.Uint64()})
		}
		checkMade(t, rising)
		slices.Reverse(rising)
		checkMade(t, rising)
	}
}

// P6.2: Ids at the ends, and such as are alike but for one bit, each stand for themselves; A and B may be any.
func TestNewEnds(t *testing.T) {
	checkMade(t, []api.Key{{Id: 1}})
	checkMade(t, []api.Key{{Id: math.MaxUint32, A: math.MaxUint64, B: math.MaxUint64}})
	checkMade(t, []api.Key{{Id: math.MaxUint32, A: 1, B: 2}, {Id: 1, A: 1, B: 2}, {Id: math.MaxInt32, A: 1, B: 2}, {Id: 1 << 31, A: 1, B: 2}})
	var low, high []api.Key
	for bit := range 16 {
		low = append(low, api.Key{Id: 1 << bit, A: 7})
		high = append(high, api.Key{Id: 1 << (16 + bit), B: uint64(bit)})
	}
	checkMade(t, low)
	checkMade(t, high)
}

// P6.2: an Id of 0 is ErrArg, wherever it stands.
func TestNewNoId(t *testing.T) {
	chance := rand.New(rand.NewPCG(32, 256))
	checkRefused(t, []api.Key{{}}, api.ErrArg)
	checkRefused(t, []api.Key{{A: 1, B: 2}}, api.ErrArg)
	for many := 1; many <= 16; many++ {
		for at := range many {
			l := severalKeys(chance, many)
			l[at].Id = 0
			checkRefused(t, l, api.ErrArg)
		}
	}
}

// P6.2: an Id that stands twice is ErrThere, wherever, and whether the keys are the same or not.
func TestNewTwice(t *testing.T) {
	chance := rand.New(rand.NewPCG(33, 256))
	for many := 2; many <= 16; many++ {
		for first := range many {
			for second := range first {
				l := severalKeys(chance, many)
				l[first].Id = l[second].Id
				checkRefused(t, l, api.ErrThere)
				l[first] = l[second]
				checkRefused(t, l, api.ErrThere)
			}
		}
	}
	checkRefused(t, []api.Key{{Id: math.MaxUint32}, {Id: math.MaxUint32}}, api.ErrThere)
	checkRefused(t, slices.Repeat([]api.Key{{Id: 3, A: 1}}, 16), api.ErrThere)
}

// P6.2: one more than MaxKeys, and more, are ErrFull, and none of them is left out instead.
func TestNewFull(t *testing.T) {
	chance := rand.New(rand.NewPCG(34, 256))
	for _, many := range []int{17, 18, 31, 32, 33, 255, 256, 257, 272, 1000} {
		l := severalKeys(chance, many)
		checkRefused(t, l, api.ErrFull)
		checkMade(t, l[:16])
		checkMade(t, l[many-16:])
	}
}

// P6.2: of several errors an Id of 0 is told first, then one that stands twice, then that there are too many.
func TestNewOrder(t *testing.T) {
	chance := rand.New(rand.NewPCG(35, 256))
	none := api.Key{A: 1}
	checkRefused(t, []api.Key{none, none}, api.ErrArg)
	checkRefused(t, []api.Key{{Id: 5}, {Id: 5}, none}, api.ErrArg)
	checkRefused(t, []api.Key{none, {Id: 5}, {Id: 5}}, api.ErrArg)
	checkRefused(t, slices.Repeat([]api.Key{none}, 17), api.ErrArg)
	checkRefused(t, slices.Repeat([]api.Key{{Id: 9}}, 17), api.ErrThere)
	for _, many := range []int{17, 18, 40} {
		for at := range many {
			l := severalKeys(chance, many)
			other := (at + 1 + chance.IntN(many-1)) % many
			l[at].Id = l[other].Id
			checkRefused(t, l, api.ErrThere) // also of 17, whose Ids are no more than may be
			l[(other+1)%many].Id = 0
			checkRefused(t, l, api.ErrArg)
			l = severalKeys(chance, many)
			l[at].Id = 0
			checkRefused(t, l, api.ErrArg)
		}
	}
}

// P6.2: no table, and one that New did not make, tell of no key.
func TestNoTable(t *testing.T) {
	var none *mac.Table
	for _, table := range []*mac.Table{none, {}} {
		for range 2 { // nothing is made by asking
			checkTable(t, table, nil)
		}
	}
}

// P6.4: a table tells what was given, whatever becomes of the list that was handed in, or of what is behind it.
func TestTableKeeps(t *testing.T) {
	chance := rand.New(rand.NewPCG(37, 256))
	for many := range 17 {
		l := severalKeys(chance, many)
		given := append(slices.Clone(l), severalKeys(chance, 20)...)
		behind := slices.Clone(given[many:])
		table, e := mac.New(given[:many])
		if e != api.OK || !slices.Equal(given[:many], l) || !slices.Equal(given[many:], behind) {
			t.Fatalf("New(%x) = %d, and left %x", l, e, given)
		}
		for i := range given {
			given[i].Id++
			given[i].A, given[i].B = 0, 0
		}
		checkTable(t, table, l)
		clear(given)
		checkTable(t, table, l)
	}
}

// P6.4: tables know nothing of each other, though their Ids be the same.
func TestTablesApart(t *testing.T) {
	chance := rand.New(rand.NewPCG(38, 256))
	l := severalKeys(chance, 16)
	m := slices.Clone(l[:9])
	for i := range m {
		m[i].A, m[i].B = chance.Uint64(), chance.Uint64()
	}
	first := checkMade(t, l)
	second := checkMade(t, m)
	checkMade(t, nil)
	checkRefused(t, append(m, m[0]), api.ErrThere)
	checkTable(t, first, l)
	checkTable(t, second, m)
}

// P6.1, P6.2: a key that was found makes the tags that the given one makes, and is found again.
func TestFound(t *testing.T) {
	l := severalKeys(rand.New(rand.NewPCG(36, 256)), 16)
	table := checkMade(t, l)
	for _, k := range l {
		got, _ := table.Find(k.Id)
		checkTag(t, got, want(k, counted(48)), counted(48))
	}
	checkTable(t, table, l)
}
