package poll_test

import (
	"math"
	"slices"
	"testing"

	"taskmill/api"
	"taskmill/poll"
)

// wrongDesc is a descriptor of which Check says something, and what it says.
type wrongDesc struct {
	what string
	d    api.Desc
	want api.Fault
}

func wrongDescs() []wrongDesc {
	return slices.Concat(wrongOnOneWay(), wrongOnBothWays(), wrongTwice())
}

// wrongOnOneWay are descriptors with something wrong on a way, alone and beside what is right on the other.
func wrongOnOneWay() []wrongDesc {
	var list []wrongDesc
	add := func(what string, code int, changes ...change) {
		d := desc(changes...)
		list = append(list,
			wrongDesc{what + " on way 0", d, fault(code, 0)},
			wrongDesc{what + " on way 1", mirrored(d), fault(code, 1)})
		if d.Closed {
			return
		}
		for _, other := range [][]change{{ready(1), until(1, 4)}, {task(1, 9)}, {task(1, 9), until(1, much)}} {
			d := desc(append(changes, other...)...)
			list = append(list,
				wrongDesc{what + " on way 0, with more on way 1", d, fault(code, 0)},
				wrongDesc{what + " on way 1, with more on way 0", mirrored(d), fault(code, 1)})
		}
	}
	for _, n := range []int{-1, -2, -much, math.MinInt} {
		add("Task below 0", api.ErrRange, task(0, n))
		add("Task below 0, ahead of Closed", api.ErrRange, shut(), task(0, n))
		add("Task below 0, ahead of Ready", api.ErrRange, ready(0), task(0, n))
	}
	for _, n := range noTimes() {
		add("Until out of range", api.ErrRange, until(0, n))
		add("Until out of range, with a task", api.ErrRange, until(0, n), task(0, 1))
		add("Until out of range, ahead of Closed", api.ErrRange, shut(), until(0, n))
		add("Until out of range, ahead of Ready with a task", api.ErrRange, until(0, n), ready(0), task(0, 1))
	}
	add("Task and Until out of range", api.ErrRange, until(0, -1), task(0, -1))
	add("Closed with Ready", api.ErrForm, shut(), ready(0))
	add("Closed with Task of 1", api.ErrForm, shut(), task(0, 1))
	add("Closed with the farthest task", api.ErrForm, shut(), task(0, math.MaxInt))
	add("Closed with Until of 1", api.ErrForm, shut(), until(0, 1))
	add("Closed with Until of MaxNum", api.ErrForm, shut(), until(0, much))
	add("Closed with Ready and a task", api.ErrForm, shut(), ready(0), task(0, 1))
	add("Closed with Ready, a task and an Until", api.ErrForm, shut(), ready(0), task(0, 1), until(0, 1))
	add("Ready with Task of 1", api.ErrForm, ready(0), task(0, 1))
	add("Ready with the farthest task", api.ErrForm, ready(0), task(0, math.MaxInt))
	add("Ready with a task and an Until", api.ErrForm, ready(0), task(0, 1), until(0, 7))
	return list
}

// wrongOnBothWays are descriptors with something wrong on each way: way 0 is told, whatever it is.
func wrongOnBothWays() []wrongDesc {
	return []wrongDesc{
		{"Tasks below 0", desc(task(0, -1), task(1, -1)), fault(api.ErrRange, 0)},
		{"Untils below 0", desc(until(0, -1), until(1, -1)), fault(api.ErrRange, 0)},
		{"a Task below 0, and an Until beyond", desc(task(0, -1), until(1, much+1)), fault(api.ErrRange, 0)},
		{"a Task below 0, ahead of Ready with a task", desc(task(0, -1), ready(1), task(1, 1)), fault(api.ErrRange, 0)},
		{"Ready with a task, ahead of a Task below 0", desc(ready(0), task(0, 1), task(1, -1)), fault(api.ErrForm, 0)},
		{"Ready with a task, ahead of an Until beyond", desc(ready(0), task(0, 1), until(1, much+1)), fault(api.ErrForm, 0)},
		{"Ready with a task, twice", desc(ready(0), task(0, 1), ready(1), task(1, 2)), fault(api.ErrForm, 0)},
		{"Closed with Ready, ahead of a Task below 0", desc(shut(), ready(0), task(1, -1)), fault(api.ErrForm, 0)},
		{"Closed with a task, ahead of an Until below 0", desc(shut(), task(0, 1), until(1, -1)), fault(api.ErrForm, 0)},
		{"Closed with an Until, ahead of Ready", desc(shut(), until(0, 1), ready(1)), fault(api.ErrForm, 0)},
		{"Closed with tasks", desc(shut(), task(0, 1), task(1, 2)), fault(api.ErrForm, 0)},
	}
}

// wrongTwice are descriptors at which one task waits on both ways: all else is told ahead of it.
func wrongTwice() []wrongDesc {
	var list []wrongDesc
	for _, n := range []int{1, 2, much + 1, math.MaxInt} {
		both := []change{task(0, n), task(1, n)}
		add := func(what string, code, at int, more ...change) {
			list = append(list, wrongDesc{what, desc(append(both, more...)...), fault(code, at)})
		}
		add("one task on both ways", api.ErrTwice, 1)
		add("one task on both ways, with Untils", api.ErrTwice, 1, until(0, 3), until(1, much))
		add("one task on both ways, behind Closed", api.ErrForm, 0, shut())
		add("one task on both ways, behind Ready 0", api.ErrForm, 0, ready(0))
		add("one task on both ways, behind Ready 1", api.ErrForm, 1, ready(1))
		add("one task on both ways, behind Until 0", api.ErrRange, 0, until(0, -1))
		add("one task on both ways, behind Until 1", api.ErrRange, 1, until(1, much+1))
	}
	return list
}

// P10.1: each fault, its place, and the order where several apply.
func TestCheck(t *testing.T) {
	for _, r := range rightDescs() {
		same(t, r.what, poll.Check(r.d), none)
	}
	for _, w := range wrongDescs() {
		same(t, w.what, poll.Check(w.d), w.want)
	}
}

// P10.1: Task of -1, 0 and 1, and Until of -1, 0, MaxNum and one beyond, on either way.
func TestCheckEdges(t *testing.T) {
	tasks := map[int]int{-1: api.ErrRange, 0: api.OK, 1: api.OK}
	untils := map[int]int{-1: api.ErrRange, 0: api.OK, 1: api.OK, much: api.OK, much + 1: api.ErrRange}
	for way := range 2 {
		place := map[int]int{api.OK: 0, api.ErrRange: way}
		for n, code := range tasks {
			same(t, told("task", way, n), poll.Check(desc(task(way, n))), fault(code, place[code]))
		}
		for n, code := range untils {
			same(t, told("until", way, n), poll.Check(desc(until(way, n))), fault(code, place[code]))
		}
	}
}

// All tell first what Check says, also where what they are given beside the descriptor is wrong.
func TestCheckIsAheadOfAll(t *testing.T) {
	for _, w := range wrongDescs() {
		for _, way := range append(noWays(), 0, 1) {
			then, who, f := poll.Fire(w.d, way)
			same(t, w.what+": fire", told(then, who, f), told(zero, 0, w.want))
			for _, n := range farNumbers() {
				then, who, f = poll.Wait(w.d, way, n, n)
				same(t, w.what+": wait", told(then, who, f), told(zero, 0, w.want))
				then, who, f = poll.Until(w.d, way, n, n)
				same(t, w.what+": until", told(then, who, f), told(zero, 0, w.want))
			}
		}
		for _, n := range farNumbers() {
			then, tasks, f := poll.Tick(w.d, n)
			same(t, w.what+": tick", told(then, tasks, f), told(zero, []int{}, w.want))
		}
		then, tasks, was, f := poll.Close(w.d)
		same(t, w.what+": close", told(then, tasks, was, f), told(zero, []int{}, false, w.want))
	}
}

// Those that have a way tell ErrKind at -1, if it is neither 0 nor 1, ahead of all faults of their own.
func TestNoWay(t *testing.T) {
	kind := fault(api.ErrKind, -1)
	for _, r := range rightDescs() {
		for _, way := range noWays() {
			then, who, f := poll.Fire(r.d, way)
			same(t, r.what+": fire", told(then, who, f), told(zero, 0, kind))
			for _, n := range farNumbers() {
				then, who, f = poll.Wait(r.d, way, n, 3)
				same(t, r.what+": wait, task", told(then, who, f), told(zero, 0, kind))
				then, who, f = poll.Wait(r.d, way, 3, n)
				same(t, r.what+": wait, now", told(then, who, f), told(zero, 0, kind))
				then, who, f = poll.Until(r.d, way, n, 3)
				same(t, r.what+": until, when", told(then, who, f), told(zero, 0, kind))
				then, who, f = poll.Until(r.d, way, 3, n)
				same(t, r.what+": until, now", told(then, who, f), told(zero, 0, kind))
			}
		}
	}
}
