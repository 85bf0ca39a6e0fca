package timers_test

import (
	"math"
	"testing"

	"ephemeris/api"
	"ephemeris/timers"
)

// P14.2: Reset to an At and an Every of all edges, of one that is there, and of one that is not, whose error comes first.
func TestResetBounds(t *testing.T) {
	for _, absolute := range []bool{false, true} {
		p := madeOf(t, timers.Timer{Absolute: absolute, At: 4, Every: 5}, timers.Timer{Absolute: !absolute, At: 6, Every: 7})
		for _, at := range edges() {
			for _, every := range edges() {
				for _, id := range []uint64{0, 3, math.MaxUint64} {
					p.reset(t, id, at.ns, every.ns, api.ErrNone)
				}
				if !at.ok || !every.ok {
					p.reset(t, 1, at.ns, every.ns, api.ErrArg)
					continue
				}
				p.reset(t, 1, at.ns, every.ns, api.OK)
				checkFind(t, p.x, 1, timers.Timer{Absolute: absolute, At: at.ns, Every: every.ns}, true)
				checkNext(t, p.x, absolute, at.ns, true)
				checkNext(t, p.x, !absolute, 6, true)
			}
		}
	}
}

// P14.2: which timers Reset and Cancel find, when some were cancelled, or fired; ErrNone of all others, and then nothing changes.
func TestWhichAreThere(t *testing.T) {
	p := made(t)
	for _, id := range []uint64{0, 1, math.MaxUint64} {
		p.reset(t, id, 1, 1, api.ErrNone)
		p.cancel(t, id, api.ErrNone)
	}
	p = madeOf(t, byMono(1, 0), byMono(2, 0), byMono(3, 4), byWall(1, 0), byWall(2, 0), byWall(3, 4))
	p.cancel(t, 1, api.OK)
	p.cancel(t, 4, api.OK)
	p.fire(t, 3, 3,
		timers.Fired{Id: 2, Timer: byMono(2, 0), Late: 1}, timers.Fired{Id: 3, Timer: byMono(3, 4)},
		timers.Fired{Id: 5, Timer: byWall(2, 0), Late: 1}, timers.Fired{Id: 6, Timer: byWall(3, 4)})
	for _, id := range []uint64{0, 1, 2, 4, 5, 7, 8, 1 << 32, 1<<32 + 3, math.MaxUint64} {
		p.reset(t, id, 9, 9, api.ErrNone)
		p.reset(t, id, -1, 9, api.ErrNone)
		p.reset(t, id, 9, greatest+1, api.ErrNone)
		p.cancel(t, id, api.ErrNone)
	}
	for _, id := range []uint64{3, 6} { // they fired, and are there again
		p.reset(t, id, 9, -1, api.ErrArg)
		p.reset(t, id, 9, 9, api.OK)
		p.cancel(t, id, api.OK)
		p.reset(t, id, 9, 9, api.ErrNone)
		p.reset(t, id, 9, -1, api.ErrNone)
		p.cancel(t, id, api.ErrNone)
	}
	p.fire(t, greatest, greatest)
}

// P14.2: one that fired and has no next time up to MaxTime is gone too.
func TestGoneAtTheEnd(t *testing.T) {
	p := madeOf(t, byMono(greatest-1, 2), byWall(1, greatest))
	p.fire(t, greatest, 1, timers.Fired{Id: 1, Timer: byMono(greatest-1, 2), Late: 1}, timers.Fired{Id: 2, Timer: byWall(1, greatest)})
	for _, id := range []uint64{1, 2} {
		p.reset(t, id, 5, 5, api.ErrNone)
		p.cancel(t, id, api.ErrNone)
	}
}

// P14.2: a timer that is reset fires at its new At, not at its old one, and goes on by its new Every; it stays of its kind.
func TestResetByHand(t *testing.T) {
	p := madeOf(t, byMono(10, 5), byWall(10, 5))
	p.reset(t, 1, 20, 3, api.OK)
	p.fire(t, 19, 9)
	p.reset(t, 2, 8, 0, api.OK)
	p.fire(t, 20, 8, timers.Fired{Id: 1, Timer: byMono(20, 3)}, timers.Fired{Id: 2, Timer: byWall(8, 0)})
	p.fire(t, 22, 100)
	p.fire(t, 23, 100, timers.Fired{Id: 1, Timer: byMono(23, 3)})

	p.reset(t, 1, 7, 3, api.OK) // it is behind already
	p.fire(t, 23, 0, timers.Fired{Id: 1, Timer: byMono(7, 3), Late: 16, Missed: 5})
	p.reset(t, 1, 24, 0, api.OK)
	p.fire(t, 25, 0, timers.Fired{Id: 1, Timer: byMono(24, 0), Late: 1})
	p.fire(t, greatest, greatest)
}

// P14.2: of one At, one that was reset comes last, also if it was to the same At and Every; a Reset that was refused, and a call for another one, leave the order.
func TestResetOrder(t *testing.T) {
	told := func(absolute bool, ids ...uint64) []timers.Fired {
		var list []timers.Fired
		for _, id := range ids {
			list = append(list, timers.Fired{Id: id, Timer: timers.Timer{Absolute: absolute, At: 10}})
		}
		return list
	}
	for _, absolute := range []bool{false, true} {
		timer := timers.Timer{Absolute: absolute, At: 10}
		start := madeOf(t, timer, timer, timer)
		for name, way := range map[string]struct {
			do   func(t *testing.T, p pair)
			want []uint64
		}{
			"as they are":                             {func(t *testing.T, p pair) {}, []uint64{1, 2, 3}},
			"the first, to the same":                  {func(t *testing.T, p pair) { p.reset(t, 1, 10, 0, api.OK) }, []uint64{2, 3, 1}},
			"the second, to the same":                 {func(t *testing.T, p pair) { p.reset(t, 2, 10, 0, api.OK) }, []uint64{1, 3, 2}},
			"the last, to the same":                   {func(t *testing.T, p pair) { p.reset(t, 3, 10, 0, api.OK) }, []uint64{1, 2, 3}},
			"the first, to an At that may not be":     {func(t *testing.T, p pair) { p.reset(t, 1, -1, 0, api.ErrArg) }, []uint64{1, 2, 3}},
			"the second, to an Every that may not be": {func(t *testing.T, p pair) { p.reset(t, 2, 10, greatest+1, api.ErrArg) }, []uint64{1, 2, 3}},
			"away and back": {func(t *testing.T, p pair) {
				p.reset(t, 1, 5, 0, api.OK)
				p.reset(t, 2, 10, 0, api.OK)
				p.reset(t, 1, 10, 0, api.OK)
			}, []uint64{3, 2, 1}},
			"all, the other way round": {func(t *testing.T, p pair) {
				p.reset(t, 3, 10, 0, api.OK)
				p.reset(t, 2, 10, 0, api.OK)
				p.reset(t, 1, 10, 0, api.OK)
			}, []uint64{3, 2, 1}},
			"one that is not there": {func(t *testing.T, p pair) { p.reset(t, 9, 10, 0, api.ErrNone) }, []uint64{1, 2, 3}},
			"one is added and another is reset": {func(t *testing.T, p pair) {
				p.add(t, timer, 4, api.OK)
				p.reset(t, 2, 10, 0, api.OK)
				p.add(t, timer, 5, api.OK)
			}, []uint64{1, 3, 4, 2, 5}},
			"one that was refused lies between": {func(t *testing.T, p pair) {
				p.reset(t, 1, 10, 0, api.OK)
				p.add(t, timers.Timer{Absolute: absolute, At: -1}, 0, api.ErrArg)
				p.reset(t, 2, 10, -1, api.ErrArg)
				p.add(t, timer, 4, api.OK)
			}, []uint64{2, 3, 1, 4}},
			"one is gone": {func(t *testing.T, p pair) {
				p.cancel(t, 1, api.OK)
				p.add(t, timer, 4, api.OK)
			}, []uint64{2, 3, 4}},
		} {
			t.Run(name, func(t *testing.T) {
				p := start.copy()
				way.do(t, p)
				if absolute {
					p.fire(t, 0, 10, told(true, way.want...)...)
				} else {
					p.fire(t, 10, 0, told(false, way.want...)...)
				}
			})
		}
	}
}
