package poll_test

import (
	"math"
	"testing"

	"taskmill/api"
	"taskmill/poll"
)

// P10.5: all who wait on a way that is late go, and are told, way 0 ahead of way 1.
func TestTick(t *testing.T) {
	two := desc(task(0, 9), until(0, 5), task(1, 3), until(1, 7))
	rows := []struct {
		what  string
		d     api.Desc
		now   int
		then  api.Desc
		tasks []int
	}{
		{"as of nothing", zero, 0, zero, nil},
		{"as of nothing, at MaxNum", zero, much, zero, nil},
		{"Closed", closed, 0, closed, nil},
		{"Closed, at MaxNum", closed, much, closed, nil},
		{"nobody waits, late on both ways", desc(until(0, 1), until(1, 2)), 5, desc(until(0, 1), until(1, 2)), nil},
		{"nobody waits, Ready and late on both ways", desc(ready(0), until(0, 1), ready(1), until(1, 2)), 5, desc(ready(0), until(0, 1), ready(1), until(1, 2)), nil},
		{"two wait for ever", desc(task(0, 9), task(1, 3)), much, desc(task(0, 9), task(1, 3)), nil},
		{"two wait for ever, at 0", desc(task(0, 9), task(1, 3)), 0, desc(task(0, 9), task(1, 3)), nil},
		{"two, neither is late", two, 4, two, nil},
		{"two, at 0", two, 0, two, nil},
		{"two, way 0 is just late", two, 5, desc(until(0, 5), task(1, 3), until(1, 7)), []int{9}},
		{"two, way 0 is late", two, 6, desc(until(0, 5), task(1, 3), until(1, 7)), []int{9}},
		{"two, both are late", two, 7, desc(until(0, 5), until(1, 7)), []int{9, 3}},
		{"two, both are long late", two, much, desc(until(0, 5), until(1, 7)), []int{9, 3}},
		{"two, neither is late, mirrored", mirrored(two), 4, mirrored(two), nil},
		{"two, way 1 is just late", mirrored(two), 5, desc(until(1, 5), task(0, 3), until(0, 7)), []int{9}},
		{"two, both are late, way 1 for longer", mirrored(two), 7, desc(until(1, 5), until(0, 7)), []int{3, 9}},
		{"two, way 0 is late, way 1 for ever", desc(task(0, 9), until(0, 5), task(1, 3)), 6, desc(until(0, 5), task(1, 3)), []int{9}},
		{"two, way 1 is late, way 0 for ever", desc(task(1, 9), until(1, 5), task(0, 3)), 6, desc(until(1, 5), task(0, 3)), []int{9}},
		{"one, late there, the other way Ready and late", desc(task(0, 9), until(0, 5), ready(1), until(1, 5)), 6, desc(until(0, 5), ready(1), until(1, 5)), []int{9}},
		{"one, not late there, late on the other way", desc(task(0, 9), until(1, 5)), 6, desc(task(0, 9), until(1, 5)), nil},
		{"the farthest, at MaxNum", desc(task(1, math.MaxInt), until(1, much)), much, desc(until(1, much)), []int{math.MaxInt}},
		{"the farthest, one below MaxNum", desc(task(1, math.MaxInt), until(1, much)), much - 1, desc(task(1, math.MaxInt), until(1, much)), nil},
		{"Until is 1, at 0", desc(task(0, 1), until(0, 1)), 0, desc(task(0, 1), until(0, 1)), nil},
		{"Until is 1, at 1", desc(task(0, 1), until(0, 1)), 1, desc(until(0, 1)), []int{1}},
	}
	for _, r := range rows {
		then, tasks, f := poll.Tick(r.d, r.now)
		same(t, r.what, told(then, tasks, f), told(r.then, r.tasks, none))
		same(t, r.what+": the descriptor then", poll.Check(then), none)
		then, tasks, f = poll.Tick(then, r.now)
		same(t, r.what+", again", told(then, tasks, f), told(r.then, []int{}, none))
	}
}

// P10.5: now that is not from 0 to MaxNum.
func TestTickFaults(t *testing.T) {
	for _, r := range rightDescs() {
		for _, now := range noTimes() {
			then, tasks, f := poll.Tick(r.d, now)
			same(t, told(r.what, now), told(then, tasks, f), told(zero, []int{}, fault(api.ErrRange, -1)))
		}
		for _, now := range []int{0, much} {
			_, _, f := poll.Tick(r.d, now)
			same(t, told(r.what, now), f, none)
		}
	}
}

// P10.6: all who wait go, and are told, way 0 ahead of way 1; all else is as of nothing, but it is Closed.
func TestClose(t *testing.T) {
	rows := []struct {
		what  string
		d     api.Desc
		tasks []int
		was   bool
	}{
		{"as of nothing", zero, nil, false},
		{"Ready on both ways", desc(ready(0), ready(1)), nil, false},
		{"with Untils", desc(until(0, 1), until(1, much)), nil, false},
		{"Ready, with Untils", desc(until(0, 1), until(1, much), ready(0), ready(1)), nil, false},
		{"one waits on way 0", desc(task(0, 1)), []int{1}, false},
		{"one waits on way 1", desc(task(1, 1)), []int{1}, false},
		{"the farthest waits", desc(task(1, math.MaxInt)), []int{math.MaxInt}, false},
		{"one waits on way 0, way 1 is Ready", desc(task(0, 1), ready(1)), []int{1}, false},
		{"one waits on way 1, way 0 is Ready", desc(task(1, 1), ready(0)), []int{1}, false},
		{"two wait", desc(task(0, 9), task(1, 3)), []int{9, 3}, false},
		{"two wait, the lesser on way 0", desc(task(0, 3), task(1, 9)), []int{3, 9}, false},
		{"two wait, with Untils", desc(task(0, 9), until(0, 7), task(1, 3), until(1, 5)), []int{9, 3}, false},
		{"Closed already", closed, nil, true},
	}
	for _, r := range rows {
		then, tasks, was, f := poll.Close(r.d)
		same(t, r.what, told(then, tasks, was, f), told(closed, r.tasks, r.was, none))
		then, tasks, was, f = poll.Close(then)
		same(t, r.what+", again", told(then, tasks, was, f), told(closed, []int{}, true, none))
	}
}
