package timers_test

import (
	"cmp"
	"math"
	"math/rand/v2"
	"slices"
	"testing"

	"ephemeris/api"
	"ephemeris/timers"
)

// what is a call, and its error.
type what struct {
	name string
	e    api.Errno
}

// doOne does one thing of chance to timers and to their model, holds one against the other, and tells which, and its error.
func doOne(t *testing.T, chance *rand.Rand, p pair) what {
	t.Helper()
	id := chance.Uint64N(p.m.added + 2)
	if len(p.m.list) > 0 && chance.IntN(4) > 0 {
		id = p.m.list[chance.IntN(len(p.m.list))].id
	}
	timer := someTimer(chance)
	var w what
	switch chance.IntN(8) {
	case 0, 1, 2:
		was := p.m.copy()
		id, e := was.add(timer)
		p.add(t, timer, id, e)
		w = what{"add", e}
	case 3, 4:
		w = what{"reset", p.m.copy().reset(id, timer.At, timer.Every)}
		p.reset(t, id, timer.At, timer.Every, w.e)
	case 5:
		w = what{"cancel", p.m.copy().cancel(id)}
		p.cancel(t, id, w.e)
	default:
		mono, wall := chance.Int64N(120)-10, chance.Int64N(120)-10
		if chance.IntN(20) == 0 {
			mono, wall = someInstant(chance), chance.Int64()
		}
		told := p.m.copy().fire(mono, wall)
		p.fire(t, mono, wall, told...)
		w = what{"fire", api.Errno(min(len(told), 2))}
	}
	return w
}

// P14.1 to P14.3: whatever is done in which order, timers are as the model.
func TestAll(t *testing.T) {
	chance := rand.New(rand.NewPCG(144, 1))
	told := map[what]int{}
	for range 60 {
		p := made(t)
		for range 100 {
			told[doOne(t, chance, p)]++
		}
	}
	for _, w := range []what{{"add", api.OK}, {"add", api.ErrArg}, {"reset", api.OK}, {"reset", api.ErrArg}, {"reset", api.ErrNone}, {"cancel", api.OK}, {"cancel", api.ErrNone}, {"fire", 0}, {"fire", 1}, {"fire", 2}} {
		if told[w] < 20 {
			t.Errorf("%s told %d only %d times", w.name, w.e, told[w])
		}
	}
}

// someTimers are so many timers of chance that may be, most of which fire again.
func someTimers(chance *rand.Rand, many int) []timers.Timer {
	var list []timers.Timer
	for len(list) < many {
		if timer := someTimer(chance); bounds(timer.At, timer.Every) {
			list = append(list, timer)
		}
	}
	return list
}

// addAll adds timers to new ones, without a model.
func addAll(t *testing.T, list []timers.Timer) *timers.Timers {
	t.Helper()
	x := timers.New()
	for i, timer := range list {
		if id, e := x.Add(timer); id != uint64(i+1) || e != api.OK {
			t.Fatalf("Add(%v) = %d, %d", timer, id, e)
		}
	}
	return x
}

// clock is the instant of a timer's clock.
func clock(timer timers.Timer, mono, wall int64) int64 {
	if timer.Absolute {
		return min(wall, greatest)
	}
	return min(mono, greatest)
}

// times is how many of a timer's times are reached at an instant.
func times(timer timers.Timer, now int64) int64 {
	if now < timer.At {
		return 0
	}
	if timer.Every == 0 {
		return 1
	}
	return (now-timer.At)/timer.Every + 1
}

// onward is an instant of chance, that is not behind one.
func onward(chance *rand.Rand, from int64) int64 {
	switch chance.IntN(12) {
	case 0, 1:
		return from
	case 2:
		return max(from, someInstant(chance))
	case 3:
		return from + (math.MaxInt64-max(from, 0))/3
	default:
		return from + chance.Int64N(40)
	}
}

// P14.4: each of a timer's times that is reached is counted once, as one that fired or as one that was missed, over any instants that do not go back; behind Fire nothing is due.
func TestOnceEachTime(t *testing.T) {
	chance := rand.New(rand.NewPCG(144, 2))
	var fired, missed, gone int
	for range 400 {
		list := someTimers(chance, 1+chance.IntN(12))
		x := addAll(t, list)
		counted := make([]int64, len(list))
		mono, wall := chance.Int64N(40)-20, chance.Int64N(40)-20
		for range 1 + chance.IntN(30) {
			for _, f := range x.Fire(mono, wall) {
				counted[f.Id-1] += 1 + f.Missed
				fired++
				missed += int(min(f.Missed, 1))
			}
			for i, timer := range list {
				now := clock(timer, mono, wall)
				if counted[i] != times(timer, now) {
					t.Fatalf("at %d of %v %d times are counted; want %d", now, timer, counted[i], times(timer, now))
				}
				checkNotDue(t, x, uint64(i+1), now)
			}
			if again := x.Fire(mono, wall); len(again) > 0 {
				t.Fatalf("at %d, %d fires again: %v", mono, wall, again)
			}
			mono, wall = onward(chance, mono), onward(chance, wall)
		}
		gone += len(list) - x.Len()
	}
	if min(fired, missed, gone) < 500 {
		t.Fatalf("%d fired, %d missed some, %d are gone", fired, missed, gone)
	}
}

// checkNotDue holds that a timer is not due at an instant of its clock, and that Next of its kind tells no such one.
func checkNotDue(t *testing.T, x *timers.Timers, id uint64, now int64) {
	t.Helper()
	timer, ok := x.Find(id)
	if !ok {
		return
	}
	next, some := x.Next(timer.Absolute)
	if timer.At <= now || next <= now || !some {
		t.Fatalf("behind Fire at %d there is %v, and Next is %d, %t", now, timer, next, some)
	}
}

// P14.4: in many steps, and in one: so many times are counted, and the timers are the same behind it.
func TestOnceByHand(t *testing.T) {
	for _, steps := range [][]int64{{100}, {0, 100}, {9, 10, 11, 100}, {99, 100}, {50, 50, 100}, {-5, 3, 17, 24, 31, 99, 99, 100}} {
		x := addAll(t, []timers.Timer{byMono(10, 7), byWall(10, 7)})
		counted := map[uint64]int64{}
		for _, at := range steps {
			for _, f := range x.Fire(at, at) {
				counted[f.Id] += 1 + f.Missed
			}
		}
		if counted[1] != 13 || counted[2] != 13 { // 10, 17, .. 94
			t.Fatalf("by %v %v are counted", steps, counted)
		}
		checkFind(t, x, 1, byMono(101, 7), true)
		checkFind(t, x, 2, byWall(101, 7), true)
	}
}

// P14.5: what fires is not ahead of its At, and of one kind in order, each kind by itself; what it is late and missed is as its clock tells.
func TestInOrder(t *testing.T) {
	chance := rand.New(rand.NewPCG(145, 1))
	var many, same int
	for range 500 {
		list := someTimers(chance, 1+chance.IntN(40))
		x := addAll(t, list)
		mono, wall := chance.Int64N(40), chance.Int64N(40)
		for range 6 {
			told := x.Fire(mono, wall)
			for i, f := range told {
				now := clock(f.Timer, mono, wall)
				if now < f.Timer.At || f.Late != now-f.Timer.At || f.Timer.Absolute != list[f.Id-1].Absolute || f.Timer.Every != list[f.Id-1].Every {
					t.Fatalf("at %d %v fires", now, f)
				}
				if i == 0 || told[i-1].Timer.Absolute != f.Timer.Absolute {
					if i > 0 && !f.Timer.Absolute {
						t.Fatalf("an absolute one is ahead of a relative one: %v", told)
					}
					continue
				}
				before := told[i-1]
				many++
				if before.Timer.At == f.Timer.At {
					same++
				}
				if cmp.Or(cmp.Compare(before.Timer.At, f.Timer.At), cmp.Compare(before.Id, f.Id)) >= 0 { // none was reset: Ids are as Seqs
					t.Fatalf("%v is ahead of %v", before, f)
				}
			}
			mono, wall = onward(chance, mono), onward(chance, wall)
		}
	}
	if min(many, same) < 500 {
		t.Fatalf("%d followed another, %d of one At", many, same)
	}
}

// P14.5: in whatever order they are added, they fire by their At; those of one At as they were added.
func TestEveryOrder(t *testing.T) {
	list := []timers.Timer{byMono(0, 0), byMono(1, 3), byMono(1, 0), byMono(7, 2), byWall(0, 5), byWall(2, 0), byWall(2, 1)}
	many := 0
	var all func(order, left []timers.Timer)
	all = func(order, left []timers.Timer) {
		for i, timer := range left {
			all(append(slices.Clone(order), timer), slices.Delete(slices.Clone(left), i, i+1))
		}
		if len(left) > 0 {
			return
		}
		many++
		var want []timers.Fired
		for i, timer := range order {
			f := timers.Fired{Id: uint64(i + 1), Timer: timer, Late: 9 - timer.At}
			if timer.Every > 0 {
				f.Missed = f.Late / timer.Every
			}
			want = append(want, f)
		}
		slices.SortStableFunc(want, func(a, b timers.Fired) int {
			if a.Timer.Absolute != b.Timer.Absolute {
				if b.Timer.Absolute {
					return -1
				}
				return 1
			}
			return cmp.Compare(a.Timer.At, b.Timer.At)
		})
		checkFired(t, addAll(t, order).Fire(9, 9), want)
	}
	all(nil, list)
	if many != 5040 {
		t.Fatalf("only %d orders", many)
	}
}

// P14.6: a wall that goes back fires nothing again: what fires is always at a time that no wall before had reached, and each is counted once, however often the wall goes over it.
func TestWallBack(t *testing.T) {
	chance := rand.New(rand.NewPCG(146, 1))
	var back, fired int
	for range 400 {
		var list []timers.Timer
		for _, timer := range someTimers(chance, 1+chance.IntN(10)) {
			timer.Absolute = true
			list = append(list, timer)
		}
		x := addAll(t, list)
		counted := make([]int64, len(list))
		highest := int64(-1)
		for range 40 {
			wall := chance.Int64N(200) - 20
			if chance.IntN(10) == 0 {
				wall = someInstant(chance)
			}
			told := x.Fire(-1, wall)
			if wall <= highest {
				back++
				checkFired(t, told, nil)
			}
			for _, f := range told {
				fired++
				counted[f.Id-1] += 1 + f.Missed
				if f.Timer.At <= highest {
					t.Fatalf("at %d, behind %d: %v fires again", wall, highest, f)
				}
			}
			highest = max(highest, wall)
			for i, timer := range list {
				if counted[i] != times(timer, highest) {
					t.Fatalf("of %v %d times are counted up to %d", timer, counted[i], highest)
				}
			}
		}
	}
	if min(back, fired) < 1000 {
		t.Fatalf("the wall went back %d times, %d fired", back, fired)
	}
}

// P14.6: a wall that is stepped back and goes on: nothing till it is where it was.
func TestWallBackByHand(t *testing.T) {
	p := madeOf(t, byWall(100, 10), byWall(105, 0), byMono(3, 0))
	p.fire(t, 0, 125, timers.Fired{Id: 1, Timer: byWall(100, 10), Late: 25, Missed: 2}, timers.Fired{Id: 2, Timer: byWall(105, 0), Late: 20})
	for _, wall := range []int64{124, 105, 100, 99, 0, -1, math.MinInt64, 100, 110, 129} {
		p.fire(t, 1, wall)
	}
	p.fire(t, 3, 0, timers.Fired{Id: 3, Timer: byMono(3, 0)})
	p.fire(t, 3, 130, timers.Fired{Id: 1, Timer: byWall(130, 10)})
	p.fire(t, 3, 130)
	p.fire(t, 2, 129)
	p.fire(t, 3, 139)
	p.fire(t, 3, 140, timers.Fired{Id: 1, Timer: byWall(140, 10)})
}
