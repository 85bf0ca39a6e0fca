package timers_test

import (
	"math"
	"testing"

	"ephemeris/api"
	"ephemeris/timers"
)

// edge is an instant, and whether an At, or an Every may be that.
type edge struct {
	ns int64
	ok bool
}

// edges are all that the chapter names, and those beside them.
func edges() []edge {
	return []edge{
		{math.MinInt64, false}, {math.MinInt64 + 1, false}, {-greatest - 1, false}, {-greatest, false}, {-1 << 32, false}, {-2, false}, {-1, false},
		{0, true}, {1, true}, {2, true}, {1 << 31, true}, {1 << 32, true}, {1 << 53, true}, {1<<53 + 1, true}, {greatest - 1, true}, {greatest, true},
		{greatest + 1, false}, {greatest + 2, false}, {math.MaxInt64 - 1, false}, {math.MaxInt64, false},
	}
}

// full is as many timers as there may be, of both kinds.
func full(t *testing.T) pair {
	t.Helper()
	p := made(t)
	for i := range int64(most) {
		timer := timers.Timer{Absolute: i%3 == 0, At: i * 7 % 50, Every: i % 4}
		p.x.Add(timer)
		p.m.add(timer)
	}
	p.check(t)
	return p
}

// P14.2: Add of an At and an Every of all edges; ErrArg, if one of them is out of bounds, and then nothing has changed.
func TestAddBounds(t *testing.T) {
	p := made(t)
	var id uint64
	for _, absolute := range []bool{false, true} {
		for _, at := range edges() {
			for _, every := range edges() {
				timer := timers.Timer{Absolute: absolute, At: at.ns, Every: every.ns}
				if !at.ok || !every.ok {
					p.add(t, timer, 0, api.ErrArg)
					continue
				}
				id++
				p.add(t, timer, id, api.OK)
				checkFind(t, p.x, id, timer, true)
			}
		}
	}
	if id != 2*81 {
		t.Fatalf("%d were added", id)
	}
}

// P14.2: there are at most 256, of both kinds, and of one; ErrArg comes ahead of ErrFull; where one is gone, there is room for one.
func TestAddFull(t *testing.T) {
	for kind, list := range map[string][]timers.Timer{
		"relative": {byMono(9, 0)}, "absolute": {byWall(9, 0)},
		"both": {byMono(9, 0), byWall(9, 0)}, "most relative": {byWall(9, 0), byMono(9, 1), byMono(greatest, greatest)},
	} {
		t.Run(kind, func(t *testing.T) {
			p := made(t)
			for id := range uint64(most - 1) {
				p.add(t, list[id%uint64(len(list))], id+1, api.OK)
			}
			p.add(t, byMono(-1, 0), 0, api.ErrArg)
			p.add(t, byWall(8, 1), most, api.OK)
			for range 2 {
				for _, timer := range []timers.Timer{byMono(0, 0), byWall(0, 0), list[0], byMono(greatest, greatest)} {
					p.add(t, timer, 0, api.ErrFull)
				}
				for _, timer := range []timers.Timer{byMono(-1, 0), byWall(0, -1), byMono(greatest+1, 0), byWall(0, greatest+1), byMono(math.MinInt64, math.MaxInt64)} {
					p.add(t, timer, 0, api.ErrArg)
				}
			}
			p.reset(t, 3, 20, 20, api.OK)
			p.add(t, byMono(0, 0), 0, api.ErrFull)
			p.cancel(t, 100, api.OK)
			p.add(t, byWall(-1, 0), 0, api.ErrArg)
			p.add(t, byWall(7, 0), most+1, api.OK)
			p.add(t, byWall(7, 0), 0, api.ErrFull)
			p.fire(t, -1, 7, timers.Fired{Id: most + 1, Timer: byWall(7, 0)})
			p.add(t, byMono(3, 1), most+2, api.OK)
			p.fire(t, 4, 0, timers.Fired{Id: most + 2, Timer: byMono(3, 1), Late: 1, Missed: 1})
			p.add(t, byMono(3, 1), 0, api.ErrFull)
		})
	}
}

// P14.2: Ids count on when timers are gone, whichever; an Add that is refused takes none.
func TestIds(t *testing.T) {
	p := made(t)
	p.add(t, byMono(0, -1), 0, api.ErrArg)
	p.add(t, byMono(5, 0), 1, api.OK)
	p.cancel(t, 1, api.OK)
	p.add(t, byMono(5, 0), 2, api.OK)
	p.add(t, byWall(5, 0), 3, api.OK)
	p.add(t, byWall(-5, 0), 0, api.ErrArg)
	p.cancel(t, 2, api.OK)
	p.add(t, byWall(6, 0), 4, api.OK)
	p.fire(t, 0, 6, timers.Fired{Id: 3, Timer: byWall(5, 0), Late: 1}, timers.Fired{Id: 4, Timer: byWall(6, 0)})
	p.add(t, byMono(1, 1), 5, api.OK)
	p.fire(t, 1, 0, timers.Fired{Id: 5, Timer: byMono(1, 1)})
	p.add(t, byMono(9, 1), 6, api.OK)
	p.reset(t, 5, 1, 1, api.OK)
	p.reset(t, 1, 1, 1, api.ErrNone)
	p.add(t, byMono(8, 1), 7, api.OK)

	f := full(t)
	f.add(t, byMono(1, 1), 0, api.ErrFull)
	f.cancel(t, most, api.OK)
	f.add(t, byMono(1, 1), most+1, api.OK)
}

// P14.2: timers that are as others in all are each there.
func TestAddSame(t *testing.T) {
	p := madeOf(t, byMono(3, 2), byMono(3, 2), byWall(3, 2), byMono(3, 2))
	p.cancel(t, 2, api.OK)
	p.fire(t, 3, 2, timers.Fired{Id: 1, Timer: byMono(3, 2)}, timers.Fired{Id: 4, Timer: byMono(3, 2)})
	p.cancel(t, 1, api.OK)
	p.fire(t, 5, 3, timers.Fired{Id: 4, Timer: byMono(5, 2)}, timers.Fired{Id: 3, Timer: byWall(3, 2)})
}
