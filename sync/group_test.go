package sync_test

import (
	"math"
	"slices"
	"testing"

	"taskmill/api"
	"taskmill/sync"
)

// addOf is an Add, and what it answers.
type addOf struct {
	what   string
	g      api.Group
	n      int
	then   api.Group
	tasks  []int
	panics bool
}

func addsThatCount() []addOf {
	all := upTo(1, most)
	return []addOf{
		{"nothing to none", group(0), 0, group(0), nil, false},
		{"one to none", group(0), 1, group(1), nil, false},
		{"MaxNum to none", group(0), much, group(much), nil, false},
		{"MaxNum less one to one", group(1), much - 1, group(much), nil, false},
		{"one to MaxNum less one", group(much-1, 4), 1, group(much, 4), nil, false},
		{"nothing to MaxNum", group(much, 4, 2), 0, group(much, 4, 2), nil, false},
		{"nothing while some wait", group(1, 4, 2), 0, group(1, 4, 2), nil, false},
		{"one while some wait", group(1, 4, 2), 1, group(2, 4, 2), nil, false},
		{"one less of two", group(2, 4, 2), -1, group(1, 4, 2), nil, false},
		{"one less of MaxNum", group(much, 4, 2), -1, group(much-1, 4, 2), nil, false},
		{"all but one less", group(much, 4, 2), 1 - much, group(1, 4, 2), nil, false},
		{"one while MaxList wait", group(1, all...), 1, group(2, all...), nil, false},
	}
}

func addsToZero() []addOf {
	all := upTo(1, most)
	return []addOf{
		{"one less of one", group(1), -1, group(0), nil, false},
		{"MaxNum less", group(much), -much, group(0), nil, false},
		{"one waits", group(1, 4), -1, group(0), []int{4}, false},
		{"several wait", group(2, 4, last, 1, 3), -2, group(0), []int{4, last, 1, 3}, false},
		{"several wait for MaxNum", group(much, 2, 1), -much, group(0), []int{2, 1}, false},
		{"MaxList wait", group(1, all...), -1, group(0), all, false},
		{"MaxList wait, less one", group(1, all[1:]...), -1, group(0), all[1:], false},
	}
}

func addsThatPanic() []addOf {
	all := upTo(1, most)
	return []addOf{
		{"one less of none", group(0), -1, group(0), nil, true},
		{"MaxNum less of none", group(0), -much, group(0), nil, true},
		{"two less of one", group(1), -2, group(1), nil, true},
		{"MaxNum less of one less", group(much - 1), -much, group(much - 1), nil, true},
		{"some wait", group(3, 4, 2), -4, group(3, 4, 2), nil, true},
		{"some wait, far below", group(3, 4, 2), -much, group(3, 4, 2), nil, true},
		{"MaxList wait", group(1, all...), -2, group(1, all...), nil, true},
	}
}

// P8.1: the group then, who goes, and whether it panics.
func TestAdd(t *testing.T) {
	for _, r := range slices.Concat(addsThatCount(), addsToZero(), addsThatPanic()) {
		then, tasks, panics, f := sync.Add(r.g, r.n)
		same(t, r.what, told(then, tasks, panics, f), told(r.then, r.tasks, r.panics, none))
	}
}

// wrongGroup is a group that has a fault.
type wrongGroup struct {
	what string
	g    api.Group
	want api.Fault
}

func wrongGroups() []wrongGroup {
	list := []wrongGroup{
		{"Count -1", group(-1), fault(api.ErrRange, 0)},
		{"Count -1, somebody waits", group(-1, 3), fault(api.ErrRange, 0)},
		{"Count far below", group(math.MinInt, 3), fault(api.ErrRange, 0)},
		{"Count one beyond MaxNum", group(much + 1), fault(api.ErrRange, 0)},
		{"Count one beyond MaxNum, somebody waits", group(much+1, 3), fault(api.ErrRange, 0)},
		{"Count far beyond", group(math.MaxInt), fault(api.ErrRange, 0)},
		{"Count 0, one waits", group(0, 3), fault(api.ErrForm, 0)},
		{"Count 0, some wait", group(0, 3, 1), fault(api.ErrForm, 0)},
		{"Count 0, MaxList wait", group(0, upTo(1, most)...), fault(api.ErrForm, 0)},
	}
	for _, w := range wrongLines() { // ahead of what is wrong with Count
		for _, count := range []int{1, much, 0, -1, much + 1, math.MinInt} {
			list = append(list, wrongGroup{w.what, group(count, w.line...), w.want})
		}
	}
	return list
}

// P8.1: each fault, its place, and the order where several apply.
func TestAddFaults(t *testing.T) {
	type row struct {
		what string
		g    api.Group
		n    int
		want api.Fault
	}
	rows := []row{
		{"n one beyond MaxNum", group(0), much + 1, fault(api.ErrRange, -1)},
		{"n far beyond", group(1, 3), math.MaxInt, fault(api.ErrRange, -1)},
		{"n one beyond -MaxNum", group(0), -much - 1, fault(api.ErrRange, -1)},
		{"n one beyond -MaxNum, of MaxNum", group(much, 3), -much - 1, fault(api.ErrRange, -1)},
		{"n far below", group(1, 3), math.MinInt, fault(api.ErrRange, -1)},
		{"n beyond, ahead of much", group(much, 3), much + 1, fault(api.ErrRange, -1)},
		{"one to MaxNum", group(much), 1, fault(api.ErrMuch, 0)},
		{"one to MaxNum, some wait", group(much, 3, 1), 1, fault(api.ErrMuch, 0)},
		{"MaxNum to one", group(1), much, fault(api.ErrMuch, 0)},
		{"MaxNum to MaxNum", group(much, 3), much, fault(api.ErrMuch, 0)},
		{"two to MaxNum less one", group(much-1, 3), 2, fault(api.ErrMuch, 0)},
	}
	for _, w := range wrongGroups() {
		for _, n := range []int{0, 1, -1, much, -much, much + 1, math.MinInt} {
			rows = append(rows, row{w.what, w.g, n, w.want})
		}
	}
	for _, r := range rows {
		then, tasks, panics, f := sync.Add(r.g, r.n)
		same(t, r.what, told(then, tasks, panics, f), told(group(0), []int{}, false, r.want))
	}
}

// P8.2: who need not wait, and who comes to the end of Line.
func TestAwait(t *testing.T) {
	all := upTo(1, most)
	for _, task := range []int{1, 5, last} {
		then, free, f := sync.Await(group(0), task)
		same(t, "Count 0", told(then, free, f), told(group(0), true, none))
		then, free, f = sync.Await(api.Group{Line: []int{}}, task)
		same(t, "Count 0, an empty line", told(then, free, f), told(group(0), true, none))
		for _, count := range []int{1, 2, much - 1, much} {
			then, free, f = sync.Await(group(count), task)
			same(t, "nobody waits", told(then, free, f), told(group(count, task), false, none))
			then, free, f = sync.Await(group(count, 9, 2, 7), task)
			same(t, "some wait", told(then, free, f), told(group(count, 9, 2, 7, task), false, none))
		}
	}
	then, free, f := sync.Await(group(1, all[:most-1]...), most)
	same(t, "the last of MaxList", told(then, free, f), told(group(1, all...), false, none))
}

// P8.2: each fault, its place, and the order where several apply; a task below 1 has it also where it need not wait.
func TestAwaitFaults(t *testing.T) {
	ask := func(what string, g api.Group, task int, want api.Fault) {
		t.Helper()
		then, free, f := sync.Await(g, task)
		same(t, what, told(then, free, f), told(group(0), false, want))
	}
	for _, w := range slices.Concat(wrongComers(), wrongCrowds()) {
		ask(w.what, group(1, w.line...), w.task, w.want)
		ask(w.what, group(much, w.line...), w.task, w.want)
	}
	for _, task := range []int{0, -1, math.MinInt} {
		ask("Count 0", group(0), task, fault(api.ErrRange, -1))
	}
	for _, w := range wrongGroups() {
		for _, task := range []int{9 * most, 3, 0, -1} {
			ask(w.what, w.g, task, w.want)
		}
	}
}

// Many come, and go together in the order in which they came; then the group can be used anew.
func TestGroupAnew(t *testing.T) {
	var g api.Group
	for round := range 3 {
		g, _, _, _ = sync.Add(g, 2)
		for task := 1; task <= 40; task++ {
			g, _, _ = sync.Await(g, round+task)
		}
		then, tasks, panics, f := sync.Add(g, -1)
		same(t, "one is left", told(then, tasks, panics, f), told(group(1, upTo(round+1, 40)...), []int{}, false, none))
		g, tasks, panics, f = sync.Add(then, -1)
		same(t, "none is left", told(g, tasks, panics, f), told(group(0), upTo(round+1, 40), false, none))
	}
}
