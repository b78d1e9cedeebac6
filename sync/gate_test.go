package sync_test

import (
	"math"
	"testing"

	"taskmill/api"
	"taskmill/sync"
)

// P8.7: the task comes to the end of Line; if Need are there then, all go.
func TestArrive(t *testing.T) {
	all := upTo(1, most)
	rows := []struct {
		what  string
		g     api.Gate
		task  int
		then  api.Gate
		tasks []int
	}{
		{"Need 1", gate(1), 1, gate(1), []int{1}},
		{"Need 1, the farthest comes", gate(1), last, gate(1), []int{last}},
		{"Need 1, an empty line", api.Gate{Need: 1, Line: []int{}}, 5, gate(1), []int{5}},
		{"the first of two", gate(2), 5, gate(2, 5), nil},
		{"the last of two", gate(2, 7), 5, gate(2), []int{7, 5}},
		{"the first of four", gate(4), 5, gate(4, 5), nil},
		{"the last but one of four", gate(4, 9, 2), 5, gate(4, 9, 2, 5), nil},
		{"the last of four", gate(4, 9, last, 2), 5, gate(4), []int{9, last, 2, 5}},
		{"the first of MaxList", gate(most), 1, gate(most, 1), nil},
		{"the last but one of MaxList", gate(most, all[:most-2]...), most - 1, gate(most, all[:most-1]...), nil},
		{"the last of MaxList", gate(most, all[:most-1]...), most, gate(most), all},
		{"the last of MaxList, less one", gate(most-1, all[:most-2]...), most - 1, gate(most - 1), all[:most-1]},
	}
	for _, r := range rows {
		then, tasks, f := sync.Arrive(r.g, r.task)
		same(t, r.what, told(then, tasks, f), told(r.then, r.tasks, none))
	}
}

// wrongGate is a gate that has a fault.
type wrongGate struct {
	what string
	g    api.Gate
	want api.Fault
}

func wrongGates() []wrongGate {
	all := upTo(1, most)
	list := []wrongGate{
		{"Need 0", gate(0), fault(api.ErrRange, 0)},
		{"Need 0, ahead of some in line", gate(0, 3, 1), fault(api.ErrRange, 0)},
		{"Need -1", gate(-1), fault(api.ErrRange, 0)},
		{"Need far below", gate(math.MinInt, 3), fault(api.ErrRange, 0)},
		{"Need one beyond MaxList", gate(most + 1), fault(api.ErrRange, 0)},
		{"Need one beyond MaxList, MaxList in line", gate(most+1, all...), fault(api.ErrRange, 0)},
		{"Need far beyond", gate(math.MaxInt, 3), fault(api.ErrRange, 0)},
		{"Need 1, one in line", gate(1, 3), fault(api.ErrForm, 0)},
		{"Need 1, two in line", gate(1, 3, 1), fault(api.ErrForm, 0)},
		{"Need 3, three in line", gate(3, 3, 1, 2), fault(api.ErrForm, 0)},
		{"Need 3, four in line", gate(3, 3, 1, 2, 4), fault(api.ErrForm, 0)},
		{"Need MaxList, MaxList in line", gate(most, all...), fault(api.ErrForm, 0)},
		{"Need MaxList less one, as many in line", gate(most-1, all[1:]...), fault(api.ErrForm, 0)},
		{"Need 1, MaxList in line", gate(1, all...), fault(api.ErrForm, 0)},
	}
	for _, w := range wrongLines() { // ahead of what is wrong with Need
		for _, need := range []int{most, 1, 0, -1, most + 1, math.MinInt} {
			list = append(list, wrongGate{w.what, gate(need, w.line...), w.want})
		}
	}
	return list
}

// P8.7: each fault, its place, and the order where several apply.
func TestArriveFaults(t *testing.T) {
	ask := func(what string, g api.Gate, task int, want api.Fault) {
		t.Helper()
		then, tasks, f := sync.Arrive(g, task)
		same(t, what, told(then, tasks, f), told(gate(0), []int{}, want))
	}
	for _, w := range wrongComers() {
		ask(w.what, gate(most, w.line...), w.task, w.want)
		ask(w.what+", the last who is wanted", gate(len(w.line)+1, w.line...), w.task, w.want)
	}
	for _, w := range wrongCrowds() { // a gate has as many as Need then
		ask(w.what, gate(most, w.line...), w.task, fault(api.ErrForm, 0))
	}
	for _, w := range wrongGates() {
		for _, task := range []int{9 * most, 3, 0, -1} {
			ask(w.what, w.g, task, w.want)
		}
	}
}

// The gate begins anew each time that all are there, and who went through can come again.
func TestGateAnew(t *testing.T) {
	for _, need := range []int{1, 2, 7} {
		g := gate(need)
		for task := range 10 * need {
			then, tasks, f := sync.Arrive(g, task%need+1)
			if task%need == need-1 {
				same(t, "all are there", told(then, tasks, f), told(gate(need), upTo(1, need), none))
			} else {
				same(t, "not all are there", told(then, tasks, f), told(gate(need, upTo(1, task%need+1)...), []int{}, none))
			}
			g = then
		}
	}
}
