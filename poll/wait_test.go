package poll_test

import (
	"math"
	"testing"

	"taskmill/api"
	"taskmill/poll"
)

// waiting is a Wait on way 0, and what it answers; it is asked on way 1, too.
type waiting struct {
	what      string
	d         api.Desc
	task, now int
	then      api.Desc
	tells     int
}

func askWaits(t *testing.T, rows []waiting) {
	t.Helper()
	for _, r := range rows {
		for way := range 2 {
			then, tells, f := poll.Wait(facing(way, r.d), way, r.task, r.now)
			same(t, told(r.what, way), told(then, tells, f), told(facing(way, r.then), r.tells, none))
			same(t, told(r.what, way, "the descriptor then"), poll.Check(then), none)
		}
	}
}

// P10.2: 0: the task waits there.
func TestWaitWaits(t *testing.T) {
	askWaits(t, []waiting{
		{"as of nothing", zero, 1, 0, desc(task(0, 1)), 0},
		{"the farthest task", zero, math.MaxInt, 0, desc(task(0, math.MaxInt)), 0},
		{"at MaxNum, for ever", zero, 1, much, desc(task(0, 1)), 0},
		{"Until is one beyond now", desc(until(0, 7)), 1, 6, desc(until(0, 7), task(0, 1)), 0},
		{"Until is 1, now 0", desc(until(0, 1)), 1, 0, desc(until(0, 1), task(0, 1)), 0},
		{"Until is MaxNum, now one below", desc(until(0, much)), 1, much - 1, desc(until(0, much), task(0, 1)), 0},
		{"late on the other way", desc(until(1, 7)), 1, 8, desc(until(1, 7), task(0, 1)), 0},
		{"Ready on the other way", desc(ready(1)), 1, 8, desc(ready(1), task(0, 1)), 0},
		{"another task waits on the other way", desc(task(1, 2)), 1, 8, desc(task(1, 2), task(0, 1)), 0},
		{"another task waits, and is late, on the other way", desc(task(1, 2), until(1, 5)), 1, 8, desc(task(1, 2), until(1, 5), task(0, 1)), 0},
	})
}

// P10.2: 1: it is Ready there, and no longer is then.
func TestWaitReady(t *testing.T) {
	askWaits(t, []waiting{
		{"Ready", desc(ready(0)), 1, 0, zero, 1},
		{"Ready at MaxNum", desc(ready(0)), math.MaxInt, much, zero, 1},
		{"Ready on both ways", desc(ready(0), ready(1)), 1, 0, desc(ready(1)), 1},
		{"Ready, Until is one beyond now", desc(ready(0), until(0, 7)), 1, 6, desc(until(0, 7)), 1},
		{"Ready, late on the other way", desc(ready(0), until(1, 7)), 1, 8, desc(until(1, 7)), 1},
		{"Ready, another task on the other way", desc(ready(0), task(1, 2)), 1, 8, desc(task(1, 2)), 1},
	})
}

// P10.2: 2: it is late there; ahead of Ready, which it stays.
func TestWaitLate(t *testing.T) {
	askWaits(t, []waiting{
		{"Until is now", desc(until(0, 7)), 1, 7, desc(until(0, 7)), 2},
		{"Until is one below now", desc(until(0, 7)), 1, 8, desc(until(0, 7)), 2},
		{"Until is 1, now 1", desc(until(0, 1)), 1, 1, desc(until(0, 1)), 2},
		{"Until is 1, now MaxNum", desc(until(0, 1)), 1, much, desc(until(0, 1)), 2},
		{"Until and now are MaxNum", desc(until(0, much)), 1, much, desc(until(0, much)), 2},
		{"late and Ready", desc(until(0, 7), ready(0)), 1, 7, desc(until(0, 7), ready(0)), 2},
		{"late and Ready, on both ways", desc(until(0, 7), ready(0), until(1, 6), ready(1)), 1, 9, desc(until(0, 7), ready(0), until(1, 6), ready(1)), 2},
		{"late, another task on the other way", desc(until(0, 7), task(1, 2)), 1, 9, desc(until(0, 7), task(1, 2)), 2},
	})
}

// P10.2: 3: it is Closed; nothing changes.
func TestWaitClosed(t *testing.T) {
	askWaits(t, []waiting{
		{"Closed", closed, 1, 0, closed, 3},
		{"Closed, at MaxNum", closed, math.MaxInt, much, closed, 3},
	})
}

// P10.2: each fault, its place, and the order where several apply; whatever else the task would be told.
func TestWaitFaults(t *testing.T) {
	rangeF, stateF, twiceF := fault(api.ErrRange, -1), fault(api.ErrState, -1), fault(api.ErrTwice, -1)
	ask := func(what string, d api.Desc, n, now int, want api.Fault) {
		t.Helper()
		for way := range 2 {
			then, tells, f := poll.Wait(facing(way, d), way, n, now)
			same(t, told(what, way), told(then, tells, f), told(zero, 0, want))
		}
	}
	for _, r := range rightDescs() { // also where a task waits there, or on the other way
		for _, n := range []int{0, -1, -much, math.MinInt} {
			ask(r.what+": a task below 1", r.d, n, 3, rangeF)
			ask(r.what+": a task below 1, now below 0", r.d, n, -1, rangeF)
		}
		for _, now := range noTimes() {
			for _, n := range []int{1, 3, 4, math.MaxInt} {
				ask(r.what+": no such time", r.d, n, now, rangeF)
			}
		}
	}
	for _, now := range []int{0, 6, 7, 8, much} {
		ask("another waits there", desc(task(0, 1)), 2, now, stateF)
		ask("the same waits there", desc(task(0, 1)), 1, now, stateF)
		ask("the farthest waits there", desc(task(0, math.MaxInt)), 2, now, stateF)
		ask("another waits there, perhaps late", desc(task(0, 1), until(0, 7)), 2, now, stateF)
		ask("another waits there, the task on the other way", desc(task(0, 1), task(1, 2)), 2, now, stateF)
		ask("the same waits there, another on the other way", desc(task(0, 1), task(1, 2)), 1, now, stateF)
		ask("another waits there, the other way is Ready", desc(task(0, 1), ready(1)), 2, now, stateF)
		ask("the task waits on the other way", desc(task(1, 1)), 1, now, twiceF)
		ask("the farthest waits on the other way", desc(task(1, math.MaxInt)), math.MaxInt, now, twiceF)
		ask("the task waits on the other way, Ready here", desc(task(1, 1), ready(0)), 1, now, twiceF)
		ask("the task waits on the other way, perhaps late here", desc(task(1, 1), until(0, 7)), 1, now, twiceF)
		ask("the task waits on the other way, perhaps late there", desc(task(1, 1), until(1, 7)), 1, now, twiceF)
		ask("the task waits on the other way, Ready and perhaps late here", desc(task(1, 1), ready(0), until(0, 7)), 1, now, twiceF)
	}
}
