package timers_test

import (
	"cmp"
	"math"
	"math/big"
	"math/rand/v2"
	"slices"
	"testing"

	"ephemeris/api"
	"ephemeris/timers"
)

const (
	greatest = 1 << 62 // an At, an Every, and a mono or a wall that counts
	most     = 256     // timers
)

// one is a timer that has to be there.
type one struct {
	id    uint64
	seq   int
	timer timers.Timer
}

// model is what timers have to hold: a list, in which all is looked for one by one.
type model struct {
	list  []one
	added uint64
	calls int
}

// bounds is whether At and Every may be.
func bounds(at, every int64) bool {
	return at >= 0 && at <= greatest && every >= 0 && every <= greatest
}

// place is where the timer of that Id is, -1 if there is none.
func (m *model) place(id uint64) int {
	return slices.IndexFunc(m.list, func(o one) bool { return o.id == id })
}

func (m *model) add(timer timers.Timer) (uint64, api.Errno) {
	if !bounds(timer.At, timer.Every) {
		return 0, api.ErrArg
	}
	if len(m.list) == most {
		return 0, api.ErrFull
	}
	m.added++
	m.calls++
	m.list = append(m.list, one{m.added, m.calls, timer})
	return m.added, api.OK
}

func (m *model) reset(id uint64, at, every int64) api.Errno {
	place := m.place(id)
	if place < 0 {
		return api.ErrNone
	}
	if !bounds(at, every) {
		return api.ErrArg
	}
	m.calls++
	m.list[place] = one{id, m.calls, timers.Timer{Absolute: m.list[place].timer.Absolute, At: at, Every: every}}
	return api.OK
}

func (m *model) cancel(id uint64) api.Errno {
	place := m.place(id)
	if place < 0 {
		return api.ErrNone
	}
	m.list = slices.Delete(m.list, place, place+1)
	return api.OK
}

// of are the timers of a kind by At and Seq.
func (m *model) of(absolute bool) []one {
	var list []one
	for _, o := range m.list {
		if o.timer.Absolute == absolute {
			list = append(list, o)
		}
	}
	slices.SortFunc(list, func(a, b one) int {
		return cmp.Or(cmp.Compare(a.timer.At, b.timer.At), cmp.Compare(a.seq, b.seq))
	})
	return list
}

func (m *model) fire(mono, wall int64) []timers.Fired {
	var told []timers.Fired
	for _, o := range m.of(false) {
		if o.timer.At <= mono {
			told = append(told, m.fireOne(o, min(mono, greatest)))
		}
	}
	for _, o := range m.of(true) {
		if o.timer.At <= wall {
			told = append(told, m.fireOne(o, min(wall, greatest)))
		}
	}
	return told
}

// fireOne is what is told of one that fires; its next time is worked out in numbers that have no end.
func (m *model) fireOne(o one, now int64) timers.Fired {
	told := timers.Fired{Id: o.id, Timer: o.timer, Late: now - o.timer.At}
	if o.timer.Every == 0 {
		m.cancel(o.id)
		return told
	}
	told.Missed = told.Late / o.timer.Every
	next := new(big.Int).Mul(big.NewInt(told.Missed+1), big.NewInt(o.timer.Every))
	next.Add(next, big.NewInt(o.timer.At))
	if next.Cmp(big.NewInt(greatest)) > 0 {
		m.cancel(o.id)
		return told
	}
	m.list[m.place(o.id)].timer.At = next.Int64()
	return told
}

func (m *model) copy() *model {
	return &model{slices.Clone(m.list), m.added, m.calls}
}

// pair is timers and their model, to which the same is done.
type pair struct {
	x *timers.Timers
	m *model
}

// made is new timers, and their model.
func made(t *testing.T) pair {
	t.Helper()
	p := pair{timers.New(), &model{}}
	if p.x == nil {
		t.Fatal("New() is nil")
	}
	p.check(t)
	return p
}

// madeOf is timers to which these were added one by one, and their model.
func madeOf(t *testing.T, list ...timers.Timer) pair {
	t.Helper()
	p := made(t)
	for i, timer := range list {
		p.add(t, timer, uint64(i+1), api.OK)
	}
	return p
}

func (p pair) copy() pair {
	return pair{p.x.Copy(), p.m.copy()}
}

// check holds all that timers tell of what is there against the model.
func (p pair) check(t *testing.T) {
	t.Helper()
	if got := p.x.Len(); got != len(p.m.list) {
		t.Fatalf("Len is %d; want %v", got, p.m.list)
	}
	for _, absolute := range []bool{false, true} {
		at, ok := int64(0), false
		if list := p.m.of(absolute); len(list) > 0 {
			at, ok = list[0].timer.At, true
		}
		checkNext(t, p.x, absolute, at, ok)
	}
	for id := range p.m.added + 2 {
		if place := p.m.place(id); place >= 0 {
			checkFind(t, p.x, id, p.m.list[place].timer, true)
		} else {
			checkFind(t, p.x, id, timers.Timer{}, false)
		}
	}
	checkFind(t, p.x, math.MaxUint64, timers.Timer{}, false)
}

// checkFind holds one Find.
func checkFind(t *testing.T, x *timers.Timers, id uint64, timer timers.Timer, ok bool) {
	t.Helper()
	if got, is := x.Find(id); got != timer || is != ok {
		t.Fatalf("Find(%d) is %v, %t; want %v, %t", id, got, is, timer, ok)
	}
}

// checkNext holds one Next.
func checkNext(t *testing.T, x *timers.Timers, absolute bool, at int64, ok bool) {
	t.Helper()
	if got, is := x.Next(absolute); got != at || is != ok {
		t.Fatalf("Next(%t) is %d, %t; want %d, %t", absolute, got, is, at, ok)
	}
}

// checkFired holds what a Fire told.
func checkFired(t *testing.T, got, want []timers.Fired) {
	t.Helper()
	if !slices.Equal(got, want) {
		t.Fatalf("Fire told %v; want %v", got, want)
	}
}

// add holds one Add, and the timers behind it.
func (p pair) add(t *testing.T, timer timers.Timer, id uint64, e api.Errno) {
	t.Helper()
	if got, is := p.x.Add(timer); got != id || is != e {
		t.Fatalf("Add(%v) = %d, %d; want %d, %d", timer, got, is, id, e)
	}
	if want, is := p.m.add(timer); want != id || is != e {
		t.Fatalf("the model's Add(%v) = %d, %d; want %d, %d", timer, want, is, id, e)
	}
	p.check(t)
}

// reset holds one Reset, and the timers behind it.
func (p pair) reset(t *testing.T, id uint64, at, every int64, e api.Errno) {
	t.Helper()
	if got := p.x.Reset(id, at, every); got != e {
		t.Fatalf("Reset(%d, %d, %d) = %d; want %d", id, at, every, got, e)
	}
	if want := p.m.reset(id, at, every); want != e {
		t.Fatalf("the model's Reset(%d, %d, %d) = %d; want %d", id, at, every, want, e)
	}
	p.check(t)
}

// cancel holds one Cancel, and the timers behind it.
func (p pair) cancel(t *testing.T, id uint64, e api.Errno) {
	t.Helper()
	if got := p.x.Cancel(id); got != e {
		t.Fatalf("Cancel(%d) = %d; want %d", id, got, e)
	}
	if want := p.m.cancel(id); want != e {
		t.Fatalf("the model's Cancel(%d) = %d; want %d", id, want, e)
	}
	p.check(t)
}

// fire holds one Fire, and the timers behind it.
func (p pair) fire(t *testing.T, mono, wall int64, want ...timers.Fired) {
	t.Helper()
	got := p.x.Fire(mono, wall)
	if !slices.Equal(got, want) {
		t.Fatalf("Fire(%d, %d) = %v; want %v", mono, wall, got, want)
	}
	if is := p.m.fire(mono, wall); !slices.Equal(is, want) {
		t.Fatalf("the model's Fire(%d, %d) = %v; want %v", mono, wall, is, want)
	}
	p.check(t)
}

// byMono is a relative timer, byWall an absolute one.
func byMono(at, every int64) timers.Timer { return timers.Timer{At: at, Every: every} }
func byWall(at, every int64) timers.Timer { return timers.Timer{Absolute: true, At: at, Every: every} }

// someInstant is an instant of chance; of few values, so that many are as others, or at the ends.
func someInstant(chance *rand.Rand) int64 {
	switch chance.IntN(4) {
	case 0:
		return chance.Int64N(4)
	case 1, 2:
		return chance.Int64N(100)
	default:
		ends := []int64{0, 1, greatest / 2, greatest - 100, greatest - 1, greatest, chance.Int64N(greatest)}
		return ends[chance.IntN(len(ends))]
	}
}

// someTimer is a timer of chance, now and then one that may not be.
func someTimer(chance *rand.Rand) timers.Timer {
	timer := timers.Timer{Absolute: chance.IntN(2) == 0, At: someInstant(chance)}
	if chance.IntN(3) > 0 {
		timer.Every = someInstant(chance)
	}
	wrong := []int64{math.MinInt64, -1, greatest + 1, math.MaxInt64}
	switch chance.IntN(30) {
	case 0:
		timer.At = wrong[chance.IntN(len(wrong))]
	case 1:
		timer.Every = wrong[chance.IntN(len(wrong))]
	}
	return timer
}

// P14.1 to P14.3: the chapter's examples.
func TestExamples(t *testing.T) {
	x := timers.New()
	for i, timer := range []timers.Timer{byMono(5, 0), byWall(100, 10), byMono(3, 0)} {
		if id, e := x.Add(timer); id != uint64(i+1) || e != api.OK {
			t.Fatalf("Add(%v) = %d, %d", timer, id, e)
		}
	}
	checkFired(t, x.Fire(5, 125), []timers.Fired{{Id: 3, Timer: byMono(3, 0), Late: 2}, {Id: 1, Timer: byMono(5, 0)}, {Id: 2, Timer: byWall(100, 10), Late: 25, Missed: 2}})
	checkNext(t, x, true, 130, true)
	checkNext(t, x, false, 0, false)
	if e := x.Cancel(1); e != api.ErrNone {
		t.Fatalf("Cancel(1) = %d", e)
	}
}

// P14.1: New tells timers of which there are none; each call tells others.
func TestNew(t *testing.T) {
	p, other := made(t), made(t)
	p.add(t, byMono(1, 2), 1, api.OK)
	other.check(t)
	other.add(t, byWall(3, 4), 1, api.OK)
	p.check(t)
	made(t).fire(t, greatest, greatest)
}

// P14.1, P14.2, P14.3: timers that New did not make, and none, have nothing, and tell so ahead of all other errors.
func TestNotMade(t *testing.T) {
	var none *timers.Timers
	for _, x := range []*timers.Timers{none, new(timers.Timers)} {
		p := pair{x, &model{}}
		for range 2 {
			for _, ns := range []int64{math.MinInt64, -1, 0, 1, greatest, greatest + 1, math.MaxInt64} {
				for _, absolute := range []bool{false, true} {
					timer := timers.Timer{Absolute: absolute, At: ns, Every: ns}
					if id, e := x.Add(timer); id != 0 || e != api.ErrNil {
						t.Fatalf("Add(%v) to none = %d, %d", timer, id, e)
					}
				}
				for _, id := range []uint64{0, 1, 2, math.MaxUint64} {
					if e := x.Reset(id, ns, ns); e != api.ErrNil {
						t.Fatalf("Reset(%d, %d, %d) of none = %d", id, ns, ns, e)
					}
					if e := x.Cancel(id); e != api.ErrNil {
						t.Fatalf("Cancel(%d) of none = %d", id, e)
					}
				}
				p.fire(t, ns, ns)
			}
			if other := x.Copy(); other != nil {
				t.Fatalf("Copy of none is %p", other)
			}
		}
	}
}

// P14.1: Find, Next and Len of none, of relative ones alone, of absolute ones alone, of both, and of the others when one is gone.
func TestKindsByHand(t *testing.T) {
	for _, absolute := range []bool{false, true} {
		p := made(t)
		checkNext(t, p.x, absolute, 0, false)
		checkNext(t, p.x, !absolute, 0, false)
		p.add(t, timers.Timer{Absolute: absolute, At: 7, Every: 2}, 1, api.OK)
		checkNext(t, p.x, absolute, 7, true)
		checkNext(t, p.x, !absolute, 0, false)
		p.add(t, timers.Timer{Absolute: absolute, At: 5}, 2, api.OK)
		checkNext(t, p.x, absolute, 5, true)
		p.add(t, timers.Timer{Absolute: !absolute, At: 0}, 3, api.OK)
		checkNext(t, p.x, absolute, 5, true)
		checkNext(t, p.x, !absolute, 0, true)
		checkFind(t, p.x, 1, timers.Timer{Absolute: absolute, At: 7, Every: 2}, true)
		checkFind(t, p.x, 3, timers.Timer{Absolute: !absolute}, true)
		if got := p.x.Len(); got != 3 {
			t.Fatalf("Len is %d", got)
		}
		p.cancel(t, 2, api.OK)
		checkNext(t, p.x, absolute, 7, true)
		checkNext(t, p.x, !absolute, 0, true)
		p.reset(t, 3, greatest, 1, api.OK)
		checkNext(t, p.x, !absolute, greatest, true)
		p.cancel(t, 1, api.OK)
		checkNext(t, p.x, absolute, 0, false)
		p.cancel(t, 3, api.OK)
		checkNext(t, p.x, !absolute, 0, false)
		if got := p.x.Len(); got != 0 {
			t.Fatalf("Len is %d", got)
		}
	}
}

// P14.1: a copy has the same; what is done to one is not done to the other.
func TestCopyByHand(t *testing.T) {
	p := madeOf(t, byMono(10, 5), byMono(10, 0), byWall(20, 3))
	p.reset(t, 1, 10, 5, api.OK)
	other := p.copy()
	if other.x == nil || other.x == p.x {
		t.Fatalf("Copy of %p is %p", p.x, other.x)
	}
	other.check(t)

	p.cancel(t, 2, api.OK)
	other.check(t)
	p.reset(t, 3, 4, 5, api.OK)
	other.check(t)
	p.add(t, byWall(1, 1), 4, api.OK)
	other.check(t)
	other.add(t, byMono(2, 0), 4, api.OK)
	p.check(t)
	other.fire(t, 10, 30,
		timers.Fired{Id: 4, Timer: byMono(2, 0), Late: 8}, timers.Fired{Id: 2, Timer: byMono(10, 0)},
		timers.Fired{Id: 1, Timer: byMono(10, 5)}, timers.Fired{Id: 3, Timer: byWall(20, 3), Late: 10, Missed: 3})
	p.check(t)
	p.fire(t, 20, 1, timers.Fired{Id: 1, Timer: byMono(10, 5), Late: 10, Missed: 2}, timers.Fired{Id: 4, Timer: byWall(1, 1)})
	other.check(t)
	other.cancel(t, 3, api.OK)
	p.check(t)
	other.reset(t, 1, 0, 0, api.OK)
	p.check(t)
}

// P14.1, P14.3: in a copy, what is set comes behind all that was set before, and what was is in its order.
func TestCopyOrder(t *testing.T) {
	p := madeOf(t, byMono(5, 0), byMono(5, 0), byMono(5, 0))
	for range 4 {
		p.reset(t, 1, 5, 0, api.OK)
	}
	fired := func(id uint64) timers.Fired { return timers.Fired{Id: id, Timer: byMono(5, 0)} }
	for name, way := range map[string]struct {
		do   func(t *testing.T, p pair)
		want []timers.Fired
	}{
		"nothing":         {func(t *testing.T, p pair) {}, []timers.Fired{fired(2), fired(3), fired(1)}},
		"another one":     {func(t *testing.T, p pair) { p.add(t, byMono(5, 0), 4, api.OK) }, []timers.Fired{fired(2), fired(3), fired(1), fired(4)}},
		"one of them":     {func(t *testing.T, p pair) { p.reset(t, 2, 5, 0, api.OK) }, []timers.Fired{fired(3), fired(1), fired(2)}},
		"the same again":  {func(t *testing.T, p pair) { p.reset(t, 1, 5, 0, api.OK) }, []timers.Fired{fired(2), fired(3), fired(1)}},
		"a copy of it":    {func(t *testing.T, p pair) { p.copy().reset(t, 2, 5, 0, api.OK) }, []timers.Fired{fired(2), fired(3), fired(1)}},
		"all but the one": {func(t *testing.T, p pair) { p.reset(t, 3, 5, 0, api.OK); p.reset(t, 2, 5, 0, api.OK) }, []timers.Fired{fired(1), fired(3), fired(2)}},
	} {
		t.Run(name, func(t *testing.T) {
			other := p.copy()
			way.do(t, other)
			other.copy().fire(t, 5, 5, way.want...)
			other.fire(t, 5, 5, way.want...)
		})
	}
}

// P14.1: a copy of none yet, of as many as there may be, and of ones that are all gone, goes on as those would.
func TestCopyOfEnds(t *testing.T) {
	empty := made(t)
	other := empty.copy()
	other.add(t, byMono(1, 0), 1, api.OK)
	empty.check(t)
	empty.add(t, byWall(1, 0), 1, api.OK)
	other.check(t)

	full := full(t)
	copied := full.copy()
	copied.add(t, byMono(0, 0), 0, api.ErrFull)
	copied.cancel(t, 200, api.OK)
	full.add(t, byMono(0, 0), 0, api.ErrFull)
	copied.add(t, byMono(0, 0), most+1, api.OK)
	full.check(t)

	for id := range uint64(most) {
		full.cancel(t, id+1, api.OK)
	}
	gone := full.copy()
	gone.add(t, byWall(4, 0), most+1, api.OK)
	full.check(t)
	full.add(t, byMono(5, 0), most+1, api.OK)
	gone.check(t)
}

// P14.1: timers and their copies, and copies of these, each against a model of its own.
func TestCopies(t *testing.T) {
	chance := rand.New(rand.NewPCG(141, 1))
	all := []pair{made(t)}
	for range 2000 {
		n := chance.IntN(len(all))
		if len(all) < 10 && chance.IntN(10) == 0 {
			all = append(all, all[n].copy())
			continue
		}
		doOne(t, chance, all[n])
		for _, p := range all {
			p.check(t)
		}
	}
	if len(all) < 10 {
		t.Fatalf("only %d", len(all))
	}
}
