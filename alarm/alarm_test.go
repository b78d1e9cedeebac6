package alarm_test

import (
	"fmt"
	"math"
	"slices"
	"testing"

	"taskmill/alarm"
	"taskmill/api"
)

// P3.1: what is right has no fault.
func TestCheckRight(t *testing.T) {
	rows := []struct {
		what string
		h    []api.Timer
	}{
		{"nothing", nil},
		{"empty", []api.Timer{}},
		{"one", heap(7)},
		{"one at 0", heap(0)},
		{"all of one When", heap(3, 3, 3, 3, 3, 3, 3)},
		{"one task twice", timers([2]int{1, 4}, [2]int{2, 4}, [2]int{1, 4})},
		{"farthest", timers([2]int{0, math.MaxInt}, [2]int{math.MaxInt, 1}, [2]int{math.MaxInt, math.MaxInt})},
		{"those beside in any order", heap(1, 5, 4, 3, 2)},
		{"sooner than one ahead that is not above", heap(1, 2, 9, 9, 9, 3, 3, 3, 3)},
		{"the sixth only has the second above", heap(1, 2, 9, 9, 9, 2)},
		{"the tenth has the third above", heap(1, 9, 2, 9, 9, 9, 9, 9, 9, 2)},
		{"MaxList timers", rising(0, api.MaxList)},
	}
	for _, r := range rows {
		same(t, r.what, alarm.Check(r.h), none)
	}
}

// P3.1: each fault, its place, and which is answered where several apply.
func TestCheckFaults(t *testing.T) {
	for _, w := range wrongHeaps() {
		same(t, w.what, alarm.Check(w.h), w.want)
	}
}

// P3.2: the heap then, and the timer's place.
func TestAdd(t *testing.T) {
	rows := []struct {
		what  string
		h     []api.Timer
		when  int
		then  []api.Timer
		place int
	}{
		{"to nothing", nil, 5, timers([2]int{5, 99}), 0},
		{"the first moment", nil, 0, timers([2]int{0, 99}), 0},
		{"behind one", heap(5), 6, timers([2]int{5, 1}, [2]int{6, 99}), 1},
		{"of one When with that above", heap(5), 5, timers([2]int{5, 1}, [2]int{5, 99}), 1},
		{"ahead of one", heap(5), 4, timers([2]int{4, 99}, [2]int{5, 1}), 0},
		{"sooner than those beside, not than that above", heap(1, 3, 3), 2, timers([2]int{1, 1}, [2]int{3, 2}, [2]int{3, 3}, [2]int{2, 99}), 3},
		{"the fifth has the first above", heap(4, 5, 6, 7), 3,
			timers([2]int{3, 99}, [2]int{5, 2}, [2]int{6, 3}, [2]int{7, 4}, [2]int{4, 1}), 0},
		{"the sixth has the second above", heap(1, 5, 2, 2, 2), 4,
			timers([2]int{1, 1}, [2]int{4, 99}, [2]int{2, 3}, [2]int{2, 4}, [2]int{2, 5}, [2]int{5, 2}), 1},
		{"rises once, to one below of its When", heap(4, 5, 4, 4, 4), 4,
			timers([2]int{4, 1}, [2]int{4, 99}, [2]int{4, 3}, [2]int{4, 4}, [2]int{4, 5}, [2]int{5, 2}), 1},
		{"rises twice", heap(4, 5, 6, 7, 8), 3,
			timers([2]int{3, 99}, [2]int{4, 1}, [2]int{6, 3}, [2]int{7, 4}, [2]int{8, 5}, [2]int{5, 2}), 0},
		{"the tenth has the third above", heap(1, 2, 9, 3, 4, 5, 5, 5, 5), 8,
			timers([2]int{1, 1}, [2]int{2, 2}, [2]int{8, 99}, [2]int{3, 4}, [2]int{4, 5}, [2]int{5, 6}, [2]int{5, 7}, [2]int{5, 8}, [2]int{5, 9}, [2]int{9, 3}), 2},
		{"farthest When", heap(5), math.MaxInt, timers([2]int{5, 1}, [2]int{math.MaxInt, 99}), 1},
	}
	for _, r := range rows {
		then, place, f := alarm.Add(r.h, api.Timer{When: r.when, Task: 99})
		same(t, r.what+", heap", then, r.then)
		same(t, r.what+", place", place, r.place)
		same(t, r.what+", fault", f, none)
	}
	then, place, f := alarm.Add(timers([2]int{2, 7}), api.Timer{When: 1, Task: 7})
	same(t, "a task that is there", fmt.Sprint(then, place, f), "[{1 7} {2 7}] 0 {0 0}")
}

// P3.2: the last timer that there is room for, at the end and all the way up.
func TestAddLimits(t *testing.T) {
	h := rising(1, api.MaxList-1)
	then, place, f := alarm.Add(h, api.Timer{When: api.MaxList, Task: 9})
	same(t, "to the end", fmt.Sprint(len(then), place, f, alarm.Check(then)), fmt.Sprint(api.MaxList, api.MaxList-1, none, none))
	then, place, f = alarm.Add(h, api.Timer{When: 0, Task: 9})
	same(t, "to the first place", fmt.Sprint(len(then), place, f, alarm.Check(then)), fmt.Sprint(api.MaxList, 0, none, none))
	same(t, "the one that was last above", then[api.MaxList-1], h[(api.MaxList-2)/4])
}

// P3.2: each fault, its place, and the order where several apply.
func TestAddFaults(t *testing.T) {
	full, good := rising(0, api.MaxList), api.Timer{When: 5, Task: 1}
	rows := []struct {
		what string
		h    []api.Timer
		t    api.Timer
		want api.Fault
	}{
		{"zero timer", nil, api.Timer{}, fault(api.ErrRange, -1)},
		{"task 0", heap(5), api.Timer{When: 5}, fault(api.ErrRange, -1)},
		{"task far below", heap(5), api.Timer{When: 5, Task: math.MinInt}, fault(api.ErrRange, -1)},
		{"When below 0", heap(5), api.Timer{When: -1, Task: 1}, fault(api.ErrRange, -1)},
		{"When far below", heap(5), api.Timer{When: math.MinInt, Task: 1}, fault(api.ErrRange, -1)},
		{"full", full, good, fault(api.ErrMuch, 0)},
		{"full, at the farthest When", full, api.Timer{When: math.MaxInt, Task: 1}, fault(api.ErrMuch, 0)},
		{"range ahead of full", full, api.Timer{When: 5}, fault(api.ErrRange, -1)},
		{"a wrong heap that is full", with(full, 4, api.Timer{When: 0}), good, fault(api.ErrRange, 4)},
		{"too many ahead of full", rising(0, api.MaxList+1), good, fault(api.ErrMany, 0)},
	}
	for _, r := range rows {
		then, place, f := alarm.Add(r.h, r.t)
		same(t, r.what, f, r.want)
		bare(t, r.what, place, api.Timer{}, then)
	}
	for _, w := range wrongHeaps() {
		for _, timer := range []api.Timer{good, {}, {When: -1, Task: 1}} {
			then, place, f := alarm.Add(w.h, timer)
			same(t, fmt.Sprint(w.what, ", ahead of ", timer), f, w.want)
			bare(t, w.what, place, api.Timer{}, then)
		}
	}
}

// P3.3: the heap then; what was dropped stood at that place.
func TestDrop(t *testing.T) {
	rows := []struct {
		what string
		h    []api.Timer
		i    int
		then []api.Timer
	}{
		{"the only one", heap(5), 0, nil},
		{"the first of two", heap(5, 7), 0, timers([2]int{7, 2})},
		{"the last of two", heap(5, 7), 1, timers([2]int{5, 1})},
		{"the last", heap(1, 2, 3), 2, timers([2]int{1, 1}, [2]int{2, 2})},
		{"the last, sooner than others", heap(1, 9, 9, 9, 9, 9, 9, 9, 9, 9), 9, heap(1, 9, 9, 9, 9, 9, 9, 9, 9)},
		{"the first, and the last stays in its stead", heap(1, 2, 2), 0, timers([2]int{2, 3}, [2]int{2, 2})},
		{"the first, and the last sinks", heap(1, 4, 3, 2, 5, 6), 0,
			timers([2]int{2, 4}, [2]int{4, 2}, [2]int{3, 3}, [2]int{6, 6}, [2]int{5, 5})},
		{"the soonest is the fourth below", heap(1, 4, 3, 3, 2, 6), 0,
			timers([2]int{2, 5}, [2]int{4, 2}, [2]int{3, 3}, [2]int{3, 4}, [2]int{6, 6})},
		{"of one When below, the least place", heap(1, 3, 2, 2, 2, 6), 0,
			timers([2]int{2, 3}, [2]int{3, 2}, [2]int{6, 6}, [2]int{2, 4}, [2]int{2, 5})},
		{"sinks twice", heap(1, 2, 3, 3, 3, 6, 5, 4, 7, 8), 0,
			timers([2]int{2, 2}, [2]int{4, 8}, [2]int{3, 3}, [2]int{3, 4}, [2]int{3, 5}, [2]int{6, 6}, [2]int{5, 7}, [2]int{8, 10}, [2]int{7, 9})},
		{"sinks to one of its When", heap(1, 2, 3, 3, 3, 6, 6, 6, 6, 6), 0,
			timers([2]int{2, 2}, [2]int{6, 10}, [2]int{3, 3}, [2]int{3, 4}, [2]int{3, 5}, [2]int{6, 6}, [2]int{6, 7}, [2]int{6, 8}, [2]int{6, 9})},
		{"one in the middle, and the last sinks there", heap(1, 2, 3, 4, 5, 6, 7, 6, 8, 9), 1,
			timers([2]int{1, 1}, [2]int{6, 6}, [2]int{3, 3}, [2]int{4, 4}, [2]int{5, 5}, [2]int{9, 10}, [2]int{7, 7}, [2]int{6, 8}, [2]int{8, 9})},
		{"the last rises", heap(1, 10, 2, 3, 4, 11, 12, 13, 14, 5), 5,
			timers([2]int{1, 1}, [2]int{5, 10}, [2]int{2, 3}, [2]int{3, 4}, [2]int{4, 5}, [2]int{10, 2}, [2]int{12, 7}, [2]int{13, 8}, [2]int{14, 9})},
		{"the last has the When of that above, and stays", heap(1, 5, 2, 3, 4, 6, 7, 8, 9, 5), 5,
			timers([2]int{1, 1}, [2]int{5, 2}, [2]int{2, 3}, [2]int{3, 4}, [2]int{4, 5}, [2]int{5, 10}, [2]int{7, 7}, [2]int{8, 8}, [2]int{9, 9})},
		{"the one ahead of the last", heap(1, 2, 3, 4, 5), 3, timers([2]int{1, 1}, [2]int{2, 2}, [2]int{3, 3}, [2]int{5, 5})},
	}
	for _, r := range rows {
		then, gone, f := alarm.Drop(r.h, r.i)
		same(t, r.what+", heap", then, r.then)
		same(t, r.what+", dropped", gone, r.h[r.i])
		same(t, r.what+", fault", f, none)
	}
}

// P3.3: the stead-in rises more than once.
func TestDropRisesFar(t *testing.T) {
	h := rising(100, 39)
	h[0].When = 0
	for _, i := range []int{2, 9, 38} { // above the last place, 38, stands 9, and above that 2
		h[i].When = 50
	}
	then, gone, f := alarm.Drop(h, 24) // above it stands 5, and above that 1
	want := slices.Clone(h[:38])
	want[1], want[5], want[24] = h[38], h[1], h[5]
	same(t, "rises", fmt.Sprint(then, gone, f), fmt.Sprint(want, h[24], none))
}

// P3.3: of MaxList timers, the first and the last.
func TestDropLimits(t *testing.T) {
	h := rising(0, api.MaxList)
	then, gone, f := alarm.Drop(h, 0)
	same(t, "the first", fmt.Sprint(len(then), gone, f, alarm.Check(then)), fmt.Sprint(api.MaxList-1, h[0], none, none))
	then, gone, f = alarm.Drop(h, api.MaxList-1)
	same(t, "the last", fmt.Sprint(then, gone, f), fmt.Sprint(h[:api.MaxList-1], h[api.MaxList-1], none))
}

// P3.3: each fault, its place, and the order where several apply.
func TestDropFaults(t *testing.T) {
	rows := []struct {
		what string
		h    []api.Timer
		i    int
	}{
		{"of nothing", nil, 0},
		{"of an empty heap", []api.Timer{}, 0},
		{"beyond one", heap(5), 1},
		{"beyond the last", heap(1, 2, 3), 3},
		{"ahead of the first", heap(1, 2, 3), -1},
		{"far below", heap(1, 2, 3), math.MinInt},
		{"far beyond", heap(1, 2, 3), math.MaxInt},
		{"beyond MaxList", rising(0, api.MaxList), api.MaxList},
	}
	for _, r := range rows {
		then, gone, f := alarm.Drop(r.h, r.i)
		same(t, r.what, f, fault(api.ErrNone, 0))
		bare(t, r.what, 0, gone, then)
	}
	for _, w := range wrongHeaps() {
		for _, i := range []int{0, -1, len(w.h) - 1, len(w.h)} {
			then, gone, f := alarm.Drop(w.h, i)
			same(t, fmt.Sprint(w.what, ", ahead of the place ", i), f, w.want)
			bare(t, w.what, 0, gone, then)
		}
	}
}
