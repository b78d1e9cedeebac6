package sync_test

import (
	"math"
	"slices"
	"testing"

	"taskmill/api"
	"taskmill/sync"
)

// P8.3: it is done, the task begins, or it comes to the end of Line.
func TestBegin(t *testing.T) {
	all := upTo(1, most)
	rows := []struct {
		what string
		o    api.Once
		task int
		then api.Once
		told int
	}{
		{"done", done(0), 1, done(0), 2},
		{"done, the farthest comes", done(0), last, done(0), 2},
		{"done, an empty line", api.Once{Done: true, Line: []int{}}, 7, done(0), 2},
		{"nobody has begun", once(0), 1, once(1), 1},
		{"nobody has begun, the farthest comes", once(0), last, once(last), 1},
		{"nobody has begun, an empty line", api.Once{Line: []int{}}, 7, once(7), 1},
		{"another one has begun", once(1), 2, once(1, 2), 0},
		{"the farthest has begun", once(last), 1, once(last, 1), 0},
		{"the farthest comes", once(1), last, once(1, last), 0},
		{"some wait", once(6, 9, 2, 7), 3, once(6, 9, 2, 7, 3), 0},
		{"MaxList wait then", once(most+1, all[:most-1]...), most, once(most+1, all...), 0},
	}
	for _, r := range rows {
		then, k, f := sync.Begin(r.o, r.task)
		same(t, r.what, told(then, k, f), told(r.then, r.told, none))
	}
}

// wrongOnce is a once that has a fault.
type wrongOnce struct {
	what string
	o    api.Once
	want api.Fault
}

func wrongOnces() []wrongOnce {
	all := upTo(1, most)
	list := []wrongOnce{
		{"By -1", once(-1), fault(api.ErrRange, 0)},
		{"By far below", once(math.MinInt), fault(api.ErrRange, 0)},
		{"By -1, somebody waits", once(-1, 3), fault(api.ErrRange, 0)},
		{"By -1, ahead of done", done(-1), fault(api.ErrRange, 0)},
		{"By -1, ahead of done, somebody waits", done(-1, 3), fault(api.ErrRange, 0)},
		{"done by somebody", done(1), fault(api.ErrForm, 0)},
		{"done by the farthest, somebody waits", done(last, 3), fault(api.ErrForm, 0)},
		{"done by one who waits", done(3, 3), fault(api.ErrForm, 0)},
		{"done, somebody waits", done(0, 3), fault(api.ErrForm, 0)},
		{"not begun, one waits", once(0, 3), fault(api.ErrForm, 0)},
		{"not begun, some wait", once(0, 3, 1), fault(api.ErrForm, 0)},
		{"not begun, MaxList wait", once(0, all...), fault(api.ErrForm, 0)},
		{"By waits alone", once(3, 3), fault(api.ErrForm, 0)},
		{"By waits first", once(3, 3, 1), fault(api.ErrForm, 0)},
		{"By waits between", once(3, 4, 3, 1), fault(api.ErrForm, 0)},
		{"By waits last", once(last, 4, 3, last), fault(api.ErrForm, 0)},
		{"By is the last of MaxList", once(most, all...), fault(api.ErrForm, 0)},
	}
	for _, w := range wrongLines() { // ahead of what is wrong with By and Done
		for _, by := range []int{9 * most, 0, -1, math.MinInt, 3} {
			list = append(list, wrongOnce{w.what, once(by, w.line...), w.want}, wrongOnce{w.what, done(by, w.line...), w.want})
		}
	}
	return list
}

// P8.3: each fault, its place, and the order where several apply; a task below 1 has it also where it need not wait.
func TestBeginFaults(t *testing.T) {
	ask := func(what string, o api.Once, task int, want api.Fault) {
		t.Helper()
		then, k, f := sync.Begin(o, task)
		same(t, what, told(then, k, f), told(once(0), 0, want))
	}
	for _, w := range slices.Concat(wrongComers(), wrongCrowds()) {
		ask(w.what, once(9*most, w.line...), w.task, w.want)
	}
	for _, task := range []int{0, -1, math.MinInt} {
		ask("done", done(0), task, fault(api.ErrRange, -1))
		ask("not begun", once(0), task, fault(api.ErrRange, -1))
	}
	for _, task := range []int{1, 8, last} {
		ask("it is By", once(task), task, fault(api.ErrState, -1))
		ask("it is By, some wait", once(task, 9, 3), task, fault(api.ErrState, -1))
	}
	ask("it is By, MaxList wait, less one", once(most, upTo(1, most-1)...), most, fault(api.ErrState, -1))
	ask("MaxList wait, ahead of who is By", once(most+1, upTo(1, most)...), most+1, fault(api.ErrMuch, 0))
	for _, w := range wrongOnces() {
		for _, task := range []int{8 * most, 9 * most, 3, 0, -1} {
			ask(w.what, w.o, task, w.want)
		}
	}
}

// P8.4: it is done, and all that wait go.
func TestEnd(t *testing.T) {
	all := upTo(1, most)
	rows := []struct {
		what  string
		o     api.Once
		tasks []int
	}{
		{"nobody waits", once(1), nil},
		{"the farthest ends", once(last), nil},
		{"one waits", once(1, 3), []int{3}},
		{"several wait", once(6, 9, last, 2, 7), []int{9, last, 2, 7}},
		{"MaxList wait", once(most+1, all...), all},
		{"MaxList wait, less one", once(1, all[1:]...), all[1:]},
	}
	for _, r := range rows {
		then, tasks, f := sync.End(r.o, r.o.By)
		same(t, r.what, told(then, tasks, f), told(done(0), r.tasks, none))
	}
}

// P8.4: each fault, its place, and the order where several apply.
func TestEndFaults(t *testing.T) {
	ask := func(what string, o api.Once, task int, want api.Fault) {
		t.Helper()
		then, tasks, f := sync.End(o, task)
		same(t, what, told(then, tasks, f), told(once(0), []int{}, want))
	}
	for _, task := range []int{2, 3, 5, 0, -1, -4, math.MinInt, last} {
		ask("nobody waits", once(4), task, fault(api.ErrState, -1))
		ask("some wait", once(4, 3, 5), task, fault(api.ErrState, -1))
		ask("not begun", once(0), task, fault(api.ErrState, -1))
		ask("done", done(0), task, fault(api.ErrState, -1))
	}
	ask("one of MaxList who wait", once(most+1, upTo(1, most)...), most, fault(api.ErrState, -1))
	for _, w := range wrongOnces() {
		for _, task := range []int{w.o.By, 8 * most, 3, 0, -1} {
			ask(w.what, w.o, task, w.want)
		}
	}
}
