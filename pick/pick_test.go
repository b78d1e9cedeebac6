package pick_test

import (
	"fmt"
	"math"
	"testing"

	"taskmill/api"
	"taskmill/pick"
)

// The chapter's example.
func TestExample(t *testing.T) {
	l := hub(open(1), open(1))
	cases := choice(gets(0), sends(1, 5))
	for _, order := range [][]int{{0, 1}, {1, 0}} {
		for _, def := range []bool{false, true} {
			then, a, f := pick.Pick(l, 1, cases, order, def)
			same(t, "the second case is done", fmt.Sprint(then, a, f), fmt.Sprint(hub(open(1), open(1, 5)), done(1), none))
		}
	}
}

// P6.1: what is right has no fault; a task may wait at several pipes, by any cases.
func TestCheckRight(t *testing.T) {
	rows := []struct {
		what string
		l    []api.Pipe
	}{
		{"no pipe", nil},
		{"no pipe, not nil", hub()},
		{"one pipe", hub(open(0))},
		{"pipes of all kinds", hub(open(0), closed(open(2, 7)), sending(open(1, 7), post(1, 0, 5)), getting(open(1000), post(2, 3, 0)))},
		{"all pipes that there may be", alike(most, open(1, 7))},
		{"a task that waits to send at two", alike(2, sending(open(0), post(1, 0, 5)))},
		{"a task that waits to get at two, by one case", alike(2, getting(open(0), post(1, 4, 0)))},
		{"a task that sends at one and gets at another", hub(sending(open(0), post(1, 0, 5)), getting(open(0), post(1, 1, 0)))},
		{"MaxList at all pipes", alike(most, getting(open(0), posts(1, api.MaxList)...))},
		{"a case beyond all cases", hub(getting(open(0), post(math.MaxInt, math.MaxInt, 0)))},
	}
	for _, r := range rows {
		same(t, r.what, pick.Check(r.l), none)
	}
}

// P6.1: each fault, its place, and which is answered where several apply.
func TestCheckFaults(t *testing.T) {
	for _, w := range wrongs() {
		same(t, w.what, pick.Check(w.l), w.want)
	}
}

// P6.3: the hub then, and who is woken how; nobody who is woken waits at another pipe.
func TestShut(t *testing.T) {
	full, empty := open(1, 7), open(2)
	one, two, three := post(1, 0, 5), post(2, 1, 6), post(3, 2, 8)
	gets1, gets2, gets3 := post(1, 3, 0), post(2, 4, 0), post(3, 5, 0)
	rows := []struct {
		what string
		l    []api.Pipe
		i    int
		then []api.Pipe
		a    api.Answer
	}{
		{"the only pipe", hub(full), 0, hub(closed(full)), done(0)},
		{"the first pipe", hub(full, empty, open(0)), 0, hub(closed(full), empty, open(0)), done(0)},
		{"a pipe between", hub(full, empty, open(0)), 1, hub(full, closed(empty), open(0)), done(0)},
		{"the last pipe", hub(full, empty, open(0)), 2, hub(full, empty, closed(open(0))), done(0)},
		{"the last of all", alike(most, full), most - 1, with(alike(most, full), most-1, closed(full)), done(0)},
		{"a closed pipe", hub(full, closed(full)), 1, hub(full, closed(full)), panics(0)},
		{"a closed pipe, while others wait", hub(sending(full, one), closed(empty)), 1, hub(sending(full, one), closed(empty)), panics(0)},
		{"getters, in their order, with their cases", hub(getting(empty, gets3, gets1)), 0, hub(closed(empty)), done(0, goesOn(3, 5), goesOn(1, 3))},
		{"senders, in their order, with their cases", hub(sending(full, three, one)), 0, hub(closed(full)), done(0, goesDown(3, 2), goesDown(1, 0))},
		{"who waits elsewhere stays", hub(sending(full, one, two), getting(empty, gets3)), 1, hub(sending(full, one, two), closed(empty)), done(0, goesOn(3, 5))},
		{"a getter that sends elsewhere", hub(sending(full, one, two), getting(empty, gets2)), 1, hub(sending(full, one), closed(empty)), done(0, goesOn(2, 4))},
		{"a getter that gets elsewhere", hub(getting(open(0), gets1, gets2, gets3), getting(empty, gets2)), 1, hub(getting(open(0), gets1, gets3), closed(empty)), done(0, goesOn(2, 4))},
		{"a sender that gets elsewhere", hub(sending(full, one), getting(empty, gets1, gets3)), 0, hub(closed(full), getting(empty, gets3)), done(0, goesDown(1, 0))},
		{"a sender that sends elsewhere", hub(sending(full, one), sending(open(0), two, one)), 0, hub(closed(full), sending(open(0), two)), done(0, goesDown(1, 0))},
		{"several that wait ahead and behind", hub(getting(empty, gets1, gets3), sending(full, one, two, three), sending(open(0), two, three), getting(open(0), gets2)), 1,
			hub(getting(empty), closed(full), open(0), open(0)), done(0, goesDown(1, 0), goesDown(2, 1), goesDown(3, 2))},
	}
	for _, r := range rows {
		then, a, f := pick.Shut(r.l, r.i)
		same(t, r.what, fmt.Sprint(then, a, f), fmt.Sprint(r.then, r.a, none))
	}
}

// P6.3: as many as there may be.
func TestShutLimits(t *testing.T) {
	var loud []api.Wake
	for task := range api.MaxList {
		loud = append(loud, goesDown(task+1, 0))
	}
	then, a, f := pick.Shut(alike(most, sending(open(0), posts(1, api.MaxList)...)), 3)
	same(t, "MaxList at all pipes", fmt.Sprint(then, a, f), fmt.Sprint(with(alike(most, open(0)), 3, closed(open(0))), done(0, loud...), none))
}

// P6.3: each fault, and what Check says ahead of it.
func TestShutFaults(t *testing.T) {
	hubs := [][]api.Pipe{nil, hub(open(0)), hub(open(1, 7), closed(open(0))), alike(most, open(0))}
	for _, l := range hubs {
		for _, i := range []int{-1, len(l), len(l) + 1, math.MinInt, math.MaxInt} {
			then, a, f := pick.Shut(l, i)
			same(t, fmt.Sprint("pipe ", i, " of ", len(l)), f, fault(api.ErrRange, -1))
			bare(t, "there is none", then, a)
		}
	}
	for _, w := range wrongs() {
		for _, i := range []int{0, len(w.l) - 1, -1, len(w.l)} {
			then, a, f := pick.Shut(w.l, i)
			same(t, w.what, f, w.want)
			bare(t, w.what, then, a)
		}
	}
}

// P6.4: the hub then.
func TestLeave(t *testing.T) {
	full, empty := open(1, 7), open(2)
	one, two, three := post(1, 0, 5), post(2, 1, 6), post(3, 2, 8)
	gets1, gets2, gets3 := post(1, 3, 0), post(2, 4, 0), post(3, 5, 0)
	many := posts(1, api.MaxList)
	rows := []struct {
		what string
		l    []api.Pipe
		task int
		then []api.Pipe
	}{
		{"the only one", hub(getting(empty, gets1)), 1, hub(empty)},
		{"the first sender", hub(empty, sending(full, one, two, three)), 1, hub(empty, sending(full, two, three))},
		{"a sender between", hub(sending(full, one, two, three), empty), 2, hub(sending(full, one, three), empty)},
		{"the last getter", hub(full, getting(empty, gets1, gets2, gets3)), 3, hub(full, getting(empty, gets1, gets2))},
		{"a sender and getter", hub(sending(full, one, two), closed(full), getting(empty, gets2, gets3)), 2, hub(sending(full, one), closed(full), getting(empty, gets3))},
		{"at all pipes", alike(most, getting(open(0), gets1, gets2)), 1, alike(most, getting(open(0), gets2))},
		{"at the first and the last", with(with(alike(most, full), 0, sending(full, two)), most-1, sending(full, one, two)), 2, with(alike(most, full), most-1, sending(full, one))},
		{"the farthest task", hub(getting(empty, post(math.MaxInt, math.MaxInt, 0), gets1)), math.MaxInt, hub(getting(empty, gets1))},
		{"one of MaxList at two pipes", hub(sending(open(0), many...), getting(open(0), many...)), api.MaxList, hub(sending(open(0), many[:api.MaxList-1]...), getting(open(0), many[:api.MaxList-1]...))},
	}
	for _, r := range rows {
		then, f := pick.Leave(r.l, r.task)
		same(t, r.what, fmt.Sprint(then, f), fmt.Sprint(r.then, none))
	}
}

// P6.4: each fault, and what Check says ahead of it.
func TestLeaveFaults(t *testing.T) {
	hubs := [][]api.Pipe{
		nil,
		hub(open(3, 2, 5), closed(open(3, 2, 5))),
		hub(sending(open(1, 2), post(1, 2, 5)), getting(open(4), post(1, 4, 0), post(3, 5, 0))),
		alike(most, sending(open(0), posts(9, api.MaxList)...)),
	}
	for _, l := range hubs {
		for _, task := range []int{2, 4, 5, 0, -1, math.MinInt, math.MaxInt} {
			then, f := pick.Leave(l, task)
			same(t, fmt.Sprint("it waits nowhere: ", task), f, fault(api.ErrNone, 0))
			bare(t, "it waits nowhere", then, waiting)
		}
	}
	for _, w := range wrongs() { // whether the task waits or not
		for _, task := range []int{1, 2, 9 * api.MaxList, 0} {
			then, f := pick.Leave(w.l, task)
			same(t, w.what, f, w.want)
			bare(t, w.what, then, waiting)
		}
	}
}
