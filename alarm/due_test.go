package alarm_test

import (
	"fmt"
	"math"
	"testing"

	"taskmill/alarm"
	"taskmill/api"
)

// P3.4: the heap then, and those that were dropped, in this order.
func TestDue(t *testing.T) {
	h := heap(1, 3, 2, 4, 5)
	rows := []struct {
		what string
		h    []api.Timer
		now  int
		then []api.Timer
		due  []api.Timer
	}{
		{"of nothing", nil, 5, nil, nil},
		{"of nothing, far", nil, math.MaxInt, nil, nil},
		{"one ahead of its time", heap(5), 4, heap(5), nil},
		{"one at its time", heap(5), 5, nil, heap(5)},
		{"one late", heap(5), 6, nil, heap(5)},
		{"at 0", heap(0, 1), 0, timers([2]int{1, 2}), timers([2]int{0, 1})},
		{"below all", h, 0, h, nil},
		{"below 0", heap(0, 0), -1, heap(0, 0), nil},
		{"far below", h, math.MinInt, h, nil},
		{"the first alone", h, 1, timers([2]int{2, 3}, [2]int{3, 2}, [2]int{5, 5}, [2]int{4, 4}), timers([2]int{1, 1})},
		{"some", h, 3, timers([2]int{4, 4}, [2]int{5, 5}), timers([2]int{1, 1}, [2]int{2, 3}, [2]int{3, 2})},
		{"the last one's time", h, 5, nil, timers([2]int{1, 1}, [2]int{2, 3}, [2]int{3, 2}, [2]int{4, 4}, [2]int{5, 5})},
		{"above all", h, 6, nil, timers([2]int{1, 1}, [2]int{2, 3}, [2]int{3, 2}, [2]int{4, 4}, [2]int{5, 5})},
		{"far above", h, math.MaxInt, nil, timers([2]int{1, 1}, [2]int{2, 3}, [2]int{3, 2}, [2]int{4, 4}, [2]int{5, 5})},
		{"farthest", timers([2]int{math.MaxInt, 1}), math.MaxInt, nil, timers([2]int{math.MaxInt, 1})},
		{"ahead of the farthest", timers([2]int{math.MaxInt, 1}), math.MaxInt - 1, timers([2]int{math.MaxInt, 1}), nil},
		{"of one When, as they come to the first place", heap(2, 2, 2, 2), 2, nil,
			timers([2]int{2, 1}, [2]int{2, 4}, [2]int{2, 3}, [2]int{2, 2})},
	}
	for _, r := range rows {
		then, due, f := alarm.Due(r.h, r.now)
		same(t, r.what+", heap", then, r.then)
		same(t, r.what+", due", due, r.due)
		same(t, r.what+", fault", f, none)
	}
}

// P3.4: of MaxList timers all, and all but one.
func TestDueLimits(t *testing.T) {
	h := rising(0, api.MaxList)
	then, due, f := alarm.Due(h, api.MaxList-1)
	same(t, "all", fmt.Sprint(then, due, f), fmt.Sprint([]int{}, h, none))
	then, due, f = alarm.Due(h, api.MaxList-2)
	same(t, "all but one", fmt.Sprint(then, due, f), fmt.Sprint(h[api.MaxList-1:], h[:api.MaxList-1], none))
}

// P3.4: what Check says is told first, and nothing beside it; no now is wrong.
func TestDueFaults(t *testing.T) {
	for _, w := range wrongHeaps() {
		for _, now := range []int{math.MinInt, -1, 0, 5, math.MaxInt} {
			then, due, f := alarm.Due(w.h, now)
			same(t, fmt.Sprint(w.what, ", now ", now), f, w.want)
			bare(t, w.what, 0, api.Timer{}, then, due)
		}
	}
}

// P3.5: the heap of a list.
func TestMade(t *testing.T) {
	rows := []struct {
		what string
		l    []api.Timer
		made []api.Timer
	}{
		{"nothing", nil, nil},
		{"empty", []api.Timer{}, nil},
		{"one", heap(5), heap(5)},
		{"two in order", heap(5, 6), heap(5, 6)},
		{"two of one When", heap(5, 5), heap(5, 5)},
		{"two", heap(6, 5), timers([2]int{5, 2}, [2]int{6, 1})},
		{"example", heap(3, 1, 2), timers([2]int{1, 2}, [2]int{3, 1}, [2]int{2, 3})},
		{"of one When, the least place", heap(3, 2, 1, 1, 1), timers([2]int{1, 3}, [2]int{2, 2}, [2]int{3, 1}, [2]int{1, 4}, [2]int{1, 5})},
		{"the fifth is below the first", heap(3, 3, 3, 3, 1), timers([2]int{1, 5}, [2]int{3, 2}, [2]int{3, 3}, [2]int{3, 4}, [2]int{3, 1})},
		{"the sixth is below the second alone", heap(1, 5, 9, 9, 9, 4),
			timers([2]int{1, 1}, [2]int{4, 6}, [2]int{9, 3}, [2]int{9, 4}, [2]int{9, 5}, [2]int{5, 2})},
		{"from the last place to the first", heap(9, 8, 7, 6, 5, 4),
			timers([2]int{4, 6}, [2]int{8, 2}, [2]int{7, 3}, [2]int{6, 4}, [2]int{5, 5}, [2]int{9, 1})},
		{"a heap stays as it is", heap(1, 4, 3, 2, 2, 4, 5, 6, 7, 3), heap(1, 4, 3, 2, 2, 4, 5, 6, 7, 3)},
		{"farthest", timers([2]int{math.MaxInt, math.MaxInt}, [2]int{0, math.MaxInt}), timers([2]int{0, math.MaxInt}, [2]int{math.MaxInt, math.MaxInt})},
	}
	for _, r := range rows {
		made, f := alarm.Made(r.l)
		same(t, r.what+", heap", made, r.made)
		same(t, r.what+", fault", f, none)
	}
}

// P3.5: MaxList timers, the soonest of them last of all.
func TestMadeLimits(t *testing.T) {
	l := falling(api.MaxList)
	made, f := alarm.Made(l)
	same(t, "falling", fmt.Sprint(len(made), made[0], f, alarm.Check(made)), fmt.Sprint(api.MaxList, l[api.MaxList-1], none, none))
	same(t, "the same timers", sorted(made), sorted(l))
	made, f = alarm.Made(rising(0, api.MaxList))
	same(t, "rising", fmt.Sprint(made, f), fmt.Sprint(rising(0, api.MaxList), none))
}

// P3.5: each fault, its place, and the order where several apply.
func TestMadeFaults(t *testing.T) {
	const most = api.MaxList
	full := falling(most)
	rows := []struct {
		what string
		l    []api.Timer
		want api.Fault
	}{
		{"a timer too many", falling(most + 1), fault(api.ErrMany, 0)},
		{"many ahead of range", make([]api.Timer, most+1), fault(api.ErrMany, 0)},
		{"task 0 alone", timers([2]int{5, 0}), fault(api.ErrRange, 0)},
		{"task far below", timers([2]int{5, math.MinInt}), fault(api.ErrRange, 0)},
		{"When below 0", timers([2]int{-1, 5}), fault(api.ErrRange, 0)},
		{"When far below", timers([2]int{math.MinInt, 5}), fault(api.ErrRange, 0)},
		{"third's task", timers([2]int{5, 1}, [2]int{4, 2}, [2]int{3, 0}), fault(api.ErrRange, 2)},
		{"third's When", timers([2]int{5, 1}, [2]int{4, 2}, [2]int{-3, 1}), fault(api.ErrRange, 2)},
		{"the first of two, When ahead", timers([2]int{5, 1}, [2]int{-4, 2}, [2]int{3, 0}), fault(api.ErrRange, 1)},
		{"the first of two, task ahead", timers([2]int{5, 1}, [2]int{4, 0}, [2]int{-3, 1}), fault(api.ErrRange, 1)},
		{"last of MaxList", with(full, most-1, api.Timer{When: 1}), fault(api.ErrRange, most-1)},
	}
	for _, r := range rows {
		made, f := alarm.Made(r.l)
		same(t, r.what, f, r.want)
		bare(t, r.what, 0, api.Timer{}, made)
	}
}
