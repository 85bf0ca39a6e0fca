package timers_test

import (
	"math"
	"math/rand/v2"
	"testing"

	"ephemeris/api"
	"ephemeris/timers"
)

// fireBy fires by one clock alone, at an instant; the other one stands below 0.
func (p pair) fireBy(t *testing.T, absolute bool, now int64, want ...timers.Fired) {
	t.Helper()
	if absolute {
		p.fire(t, -1, now, want...)
	} else {
		p.fire(t, now, -1, want...)
	}
}

// P14.3: just at its At a timer fires, and behind it; not ahead of it. A clock above MaxTime counts as MaxTime.
func TestFireAt(t *testing.T) {
	for _, absolute := range []bool{false, true} {
		for _, way := range []struct {
			at, now int64
			late    int64 // -1: it does not fire
		}{
			{0, math.MinInt64, -1}, {0, math.MinInt64 + 1, -1}, {0, -greatest, -1}, {0, -2, -1}, {0, -1, -1}, {0, 0, 0}, {0, 1, 1}, {0, 2, 2},
			{0, greatest - 1, greatest - 1}, {0, greatest, greatest}, {0, greatest + 1, greatest}, {0, math.MaxInt64, greatest},
			{1, -1, -1}, {1, 0, -1}, {1, 1, 0}, {1, 2, 1}, {1, math.MaxInt64, greatest - 1},
			{1000, 999, -1}, {1000, 1000, 0}, {1000, 1001, 1}, {1000, 5000, 4000}, {1000, -1000, -1}, {1000, math.MinInt64, -1},
			{1 << 32, 1<<32 - 1, -1}, {1 << 32, 1 << 32, 0}, {1<<53 + 1, 1 << 53, -1}, {1<<53 + 1, 1<<53 + 1, 0}, {1<<53 + 1, 1<<53 + 2, 1},
			{greatest - 1, greatest - 2, -1}, {greatest - 1, greatest - 1, 0}, {greatest - 1, greatest, 1}, {greatest - 1, greatest + 1, 1}, {greatest - 1, math.MaxInt64, 1},
			{greatest, greatest - 1, -1}, {greatest, greatest, 0}, {greatest, greatest + 1, 0}, {greatest, greatest + 2, 0}, {greatest, math.MaxInt64 - 1, 0}, {greatest, math.MaxInt64, 0},
			{greatest, 0, -1}, {greatest, -greatest, -1}, {greatest, math.MinInt64, -1},
		} {
			timer := timers.Timer{Absolute: absolute, At: way.at}
			p := madeOf(t, timer)
			if way.late < 0 {
				p.fireBy(t, absolute, way.now)
				checkFind(t, p.x, 1, timer, true)
				continue
			}
			p.fireBy(t, !absolute, way.now)
			p.fireBy(t, absolute, way.now, timers.Fired{Id: 1, Timer: timer, Late: way.late})
			checkFind(t, p.x, 1, timers.Timer{}, false)
			p.fireBy(t, absolute, math.MaxInt64)
		}
	}
}

// P14.3: how often an Every goes into what it is late, and what At is next; it is gone, if that would be above MaxTime.
func TestFireEvery(t *testing.T) {
	const gone = -1
	for _, absolute := range []bool{false, true} {
		for _, way := range []struct {
			at, every, now     int64
			late, missed, next int64
		}{
			{10, 10, 10, 0, 0, 20}, {10, 10, 11, 1, 0, 20}, {10, 10, 19, 9, 0, 20}, // 0 times
			{10, 10, 20, 10, 1, 30}, {10, 10, 21, 11, 1, 30}, {10, 10, 29, 19, 1, 30}, // once
			{10, 10, 30, 20, 2, 40}, {10, 10, 1000, 990, 99, 1010}, {10, 10, 1009, 999, 99, 1010}, {100, 10, 125, 25, 2, 130},
			{0, 1, 0, 0, 0, 1}, {0, 1, 1, 1, 1, 2}, {0, 1, 1 << 40, 1 << 40, 1 << 40, 1<<40 + 1}, {7, 1, 9, 2, 2, 10},
			{0, 3, 1<<53 + 1, 1<<53 + 1, 3002399751580331, 1<<53 + 4}, {5, 7, 5, 0, 0, 12}, {0, 2, 0, 0, 0, 2},

			{0, greatest, 0, 0, 0, greatest}, {0, greatest, 1, 1, 0, greatest}, {0, greatest, greatest - 1, greatest - 1, 0, greatest}, // the next one is just MaxTime
			{greatest - 1, 1, greatest - 1, 0, 0, greatest}, {greatest - 10, 10, greatest - 1, 9, 0, greatest}, {greatest - 20, 10, greatest - 5, 15, 1, greatest},
			{greatest / 2, greatest / 2, greatest / 2, 0, 0, greatest}, {1, greatest - 1, 1, 0, 0, greatest}, {0, 1, greatest - 1, greatest - 1, greatest - 1, greatest},
			{0, 2, greatest - 1, greatest - 1, greatest/2 - 1, greatest}, {0, greatest / 4, greatest - 1, greatest - 1, 3, greatest},

			{1, greatest, 1, 0, 0, gone}, {greatest - 1, 2, greatest - 1, 0, 0, gone}, {greatest, 1, greatest, 0, 0, gone}, {greatest - 9, 10, greatest - 1, 8, 0, gone}, // one above
			{greatest - 19, 10, greatest - 5, 14, 1, gone}, {greatest/2 + 1, greatest / 2, greatest - 1, greatest/2 - 2, 0, gone}, {2, greatest - 1, 2, 0, 0, gone},
			{0, 1, greatest, greatest, greatest, gone}, {1, 1, greatest, greatest - 1, greatest - 1, gone}, {greatest - 20, 10, greatest, 20, 2, gone},

			{greatest, greatest, greatest, 0, 0, gone}, {greatest - 1, greatest, greatest, 1, 0, gone}, {0, greatest, greatest, greatest, 1, gone}, // far above
			{1, greatest, greatest, greatest - 1, 0, gone}, {1, greatest - 1, greatest, greatest - 1, 1, gone}, {0, greatest - 1, greatest, greatest, 1, gone},
			{0, greatest / 2, greatest, greatest, 2, gone}, {greatest / 2, greatest, greatest, greatest / 2, 0, gone}, {1000, greatest, 1000, 0, 0, gone},

			{0, 1, math.MaxInt64, greatest, greatest, gone}, {0, greatest, math.MaxInt64, greatest, 1, gone}, {10, 20, greatest + 1, greatest - 10, (greatest - 10) / 20, gone}, // a clock above MaxTime
			{0, 5, math.MaxInt64, greatest, greatest / 5, gone}, {greatest, 0, math.MaxInt64, 0, 0, gone}, {3, 0, 9, 6, 0, gone},
		} {
			timer := timers.Timer{Absolute: absolute, At: way.at, Every: way.every}
			p := madeOf(t, timer)
			p.fireBy(t, absolute, way.now, timers.Fired{Id: 1, Timer: timer, Late: way.late, Missed: way.missed})
			if way.next == gone {
				checkFind(t, p.x, 1, timers.Timer{}, false)
			} else {
				checkFind(t, p.x, 1, timers.Timer{Absolute: absolute, At: way.next, Every: way.every}, true)
				checkNext(t, p.x, absolute, way.next, true)
				p.fireBy(t, absolute, way.next-1)
				p.fireBy(t, absolute, way.next, timers.Fired{Id: 1, Timer: timers.Timer{Absolute: absolute, At: way.next, Every: way.every}})
			}
		}
	}
}

// P14.3: nothing is due; all are; those of one kind alone; some of each.
func TestFireWhich(t *testing.T) {
	list := []timers.Timer{byMono(30, 0), byWall(25, 0), byMono(10, 100), byWall(5, 0), byMono(20, 0), byWall(15, 100)}
	fired := func(id uint64, late int64) timers.Fired {
		return timers.Fired{Id: id, Timer: list[id-1], Late: late}
	}
	start := madeOf(t, list...)
	for name, way := range map[string]struct {
		mono, wall int64
		want       []timers.Fired
	}{
		"nothing":                {9, 4, nil},
		"nothing, at the ends":   {math.MinInt64, math.MinInt64, nil},
		"all, just":              {30, 25, []timers.Fired{fired(3, 20), fired(5, 10), fired(1, 0), fired(4, 20), fired(6, 10), fired(2, 0)}},
		"relative ones":          {35, 4, []timers.Fired{fired(3, 25), fired(5, 15), fired(1, 5)}},
		"absolute ones":          {9, 35, []timers.Fired{fired(4, 30), fired(6, 20), fired(2, 10)}},
		"one of each":            {10, 5, []timers.Fired{fired(3, 0), fired(4, 0)}},
		"two and one":            {20, 5, []timers.Fired{fired(3, 10), fired(5, 0), fired(4, 0)}},
		"one and two":            {19, 15, []timers.Fired{fired(3, 9), fired(4, 10), fired(6, 0)}},
		"relative ones, not all": {29, -5, []timers.Fired{fired(3, 19), fired(5, 9)}},
	} {
		t.Run(name, func(t *testing.T) {
			p := start.copy()
			p.fire(t, way.mono, way.wall, way.want...)
			p.fire(t, way.mono, way.wall)
		})
	}
}

// P14.3: relative ones come ahead of absolute ones, also if these have less an At, or less a Seq.
func TestFireKindsInOrder(t *testing.T) {
	p := madeOf(t, byWall(5, 0), byMono(5, 0), byWall(5, 0), byMono(5, 0), byWall(1, 0), byMono(9, 0))
	p.reset(t, 2, 5, 0, api.OK)
	p.fire(t, 9, 9,
		timers.Fired{Id: 4, Timer: byMono(5, 0), Late: 4}, timers.Fired{Id: 2, Timer: byMono(5, 0), Late: 4}, timers.Fired{Id: 6, Timer: byMono(9, 0)},
		timers.Fired{Id: 5, Timer: byWall(1, 0), Late: 8}, timers.Fired{Id: 1, Timer: byWall(5, 0), Late: 4}, timers.Fired{Id: 3, Timer: byWall(5, 0), Late: 4})
}

// P14.3: a timer fires but once at a time, whatever it missed, and stays of its Seq: of one At it comes again where it came.
func TestFireSeqStays(t *testing.T) {
	for _, absolute := range []bool{false, true} {
		timer := func(at, every int64) timers.Timer {
			return timers.Timer{Absolute: absolute, At: at, Every: every}
		}
		p := madeOf(t, timer(1, 9), timer(10, 5), timer(10, 0), timer(5, 5))
		p.fireBy(t, absolute, 9, timers.Fired{Id: 1, Timer: timer(1, 9), Late: 8}, timers.Fired{Id: 4, Timer: timer(5, 5), Late: 4})
		p.fireBy(t, absolute, 10, timers.Fired{Id: 1, Timer: timer(10, 9)}, timers.Fired{Id: 2, Timer: timer(10, 5)}, timers.Fired{Id: 3, Timer: timer(10, 0)}, timers.Fired{Id: 4, Timer: timer(10, 5)})
		p.reset(t, 2, 15, 15, api.OK)
		p.add(t, timer(15, 0), 5, api.OK)
		p.fireBy(t, absolute, 15, timers.Fired{Id: 4, Timer: timer(15, 5)}, timers.Fired{Id: 2, Timer: timer(15, 15)}, timers.Fired{Id: 5, Timer: timer(15, 0)})
		p.reset(t, 1, 30, 10, api.OK)
		p.fireBy(t, absolute, 29, timers.Fired{Id: 4, Timer: timer(20, 5), Late: 9, Missed: 1})
		p.fireBy(t, absolute, 30, timers.Fired{Id: 4, Timer: timer(30, 5)}, timers.Fired{Id: 2, Timer: timer(30, 15)}, timers.Fired{Id: 1, Timer: timer(30, 10)})
	}
}

// P14.3: what was told stays, whatever becomes of the timers, and they stay, whatever becomes of it.
func TestFiredApart(t *testing.T) {
	p := madeOf(t, byMono(1, 2), byWall(3, 4), byMono(5, 0))
	told := p.x.Fire(2, 4)
	p.m.fire(2, 4)
	want := []timers.Fired{{Id: 1, Timer: byMono(1, 2), Late: 1}, {Id: 2, Timer: byWall(3, 4), Late: 1}}
	checkFired(t, told, want)
	p.reset(t, 1, 8, 8, api.OK)
	p.fire(t, 8, 7, timers.Fired{Id: 3, Timer: byMono(5, 0), Late: 3}, timers.Fired{Id: 1, Timer: byMono(8, 8)}, timers.Fired{Id: 2, Timer: byWall(7, 4)})
	p.cancel(t, 2, api.OK)
	p.cancel(t, 1, api.OK)
	checkFired(t, told, want)

	p = madeOf(t, byMono(1, 2), byWall(3, 4))
	told = p.x.Fire(1, 3)
	p.m.fire(1, 3)
	for i := range told {
		told[i] = timers.Fired{Id: 9, Timer: byMono(9, 9), Late: 9, Missed: 9}
	}
	_ = append(told[:0], timers.Fired{Id: 8})
	p.check(t)
	p.fire(t, 3, 7, timers.Fired{Id: 1, Timer: byMono(3, 2)}, timers.Fired{Id: 2, Timer: byWall(7, 4)})
}

// P14.3: as many as there may be fire at once, in order.
func TestFireFull(t *testing.T) {
	p := full(t)
	got, want := p.x.Fire(60, 70), p.m.fire(60, 70)
	checkFired(t, got, want)
	if len(got) != most {
		t.Fatalf("%d fired", len(got))
	}
	p.check(t)
	p.fire(t, 60, 70)
}

// P14.3: a timer of chance at an instant of chance, the ends among them; each of what becomes of it comes often.
func TestFireOne(t *testing.T) {
	chance := rand.New(rand.NewPCG(143, 1))
	var not, once, again, end, missed int
	for range 50_000 {
		timer := someTimer(chance)
		if !bounds(timer.At, timer.Every) {
			continue
		}
		now := someInstant(chance)
		switch chance.IntN(4) {
		case 0:
			now = timer.At + chance.Int64N(3) - 1
		case 1:
			now = min(math.MaxInt64-timer.At, timer.Every) + timer.At + chance.Int64N(3) - 2
		}
		p := pair{timers.New(), &model{}}
		p.x.Add(timer)
		p.m.add(timer)
		mono, wall := now, int64(-1)
		if timer.Absolute {
			mono, wall = wall, mono
		}
		got, want := p.x.Fire(mono, wall), p.m.fire(mono, wall)
		checkFired(t, got, want)
		p.check(t)
		switch {
		case len(got) == 0:
			not++
		case timer.Every == 0:
			once++
		case p.x.Len() == 1:
			again++
		default:
			end++
		}
		if len(got) > 0 && got[0].Missed > 0 {
			missed++
		}
	}
	if min(not, once, again, end, missed) < 1000 {
		t.Fatalf("%d did not fire, %d once, %d are there again, %d came to the end, %d missed some", not, once, again, end, missed)
	}
}
