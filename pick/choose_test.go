package pick_test

import (
	"fmt"
	"math"
	"slices"
	"testing"

	"taskmill/api"
	"taskmill/pick"
)

// chosen is a choice by the task 100 with a case that is done.
type chosen struct {
	what  string
	l     []api.Pipe
	cases []api.Case
	order []int
	then  []api.Pipe
	a     api.Answer
}

// oneCase are choices of one case that is ready.
func oneCase() []chosen {
	full, empty := open(2, 7, 8), open(2)
	two, three := post(2, 1, 6), post(3, 2, 9)
	gets2, gets3 := post(2, 1, 0), post(3, 2, 0)
	first := []int{0}
	return []chosen{
		{"to send beside room", hub(empty), choice(sends(0, 5)), first, hub(open(2, 5)), done(0)},
		{"to send into the last room", hub(full, open(2, 7)), choice(sends(1, -5)), first, hub(full, open(2, 7, -5)), done(0)},
		{"to send to a getter", hub(full, getting(empty, gets2, gets3)), choice(sends(1, 5)), first, hub(full, getting(empty, gets3)), done(0, goesOnWith(2, 1, 5))},
		{"to send to a getter, Cap of 0", hub(getting(open(0), gets2)), choice(sends(0, math.MinInt)), first, hub(open(0)), done(0, goesOnWith(2, 1, math.MinInt))},
		{"to send 0 to a getter", hub(getting(open(0), gets2)), choice(sends(0, 0)), first, hub(open(0)), done(0, goesOnWith(2, 1, 0))},
		{"to send to a closed pipe", hub(full, closed(empty)), choice(sends(1, 5)), first, hub(full, closed(empty)), panics(0)},
		{"to get an item", hub(open(3, 7, 8)), choice(gets(0)), first, hub(open(3, 8)), gave(0, 7)},
		{"to get an item, and the first sender's comes", hub(empty, sending(full, two, three)), choice(gets(1)), first, hub(empty, sending(open(2, 8, 6), three)), gave(0, 7, goesOn(2, 1))},
		{"to get from a sender", hub(sending(open(0), two, three)), choice(gets(0)), first, hub(sending(open(0), three)), gave(0, 6, goesOn(2, 1))},
		{"to get from a closed pipe", hub(closed(open(2, 7))), choice(gets(0)), first, hub(closed(empty)), gave(0, 7)},
		{"to get from a closed and empty pipe", hub(full, closed(empty)), choice(gets(1)), first, hub(full, closed(empty)), done(0)},
		{"at the last pipe of all", alike(most, open(1)), choice(sends(most-1, 5)), first, with(alike(most, open(1)), most-1, open(1, 5)), done(0)},
	}
}

// manyCases are choices of which the order tells what is done.
func manyCases() []chosen {
	full, empty := open(1, 7), open(1)
	l := hub(empty, full, empty, closed(empty))
	both := choice(sends(0, 5), gets(1), sends(2, 6), gets(3))
	blocked := choice(gets(0), sends(1, 5), gets(2), gets(-1), sends(3, 6))
	all := getsFrom(most)
	fulls := alike(most, full)
	return []chosen{
		{"all are ready: the first", l, both, []int{0, 1, 2, 3}, with(l, 0, open(1, 5)), done(0)},
		{"all are ready: the second", l, both, []int{1, 0, 2, 3}, with(l, 1, empty), gave(1, 7)},
		{"all are ready: the third", l, both, []int{2, 3, 1, 0}, with(l, 2, open(1, 6)), done(2)},
		{"all are ready: the last", l, both, []int{3, 1, 2, 0}, l, done(3)},
		{"the last one alone is ready, and comes last", l, blocked, []int{0, 1, 2, 3, 4}, l, panics(4)},
		{"the last one alone is ready, and comes first", l, blocked, []int{4, 3, 2, 1, 0}, l, panics(4)},
		{"the last one alone is ready, and comes between", l, blocked, []int{2, 3, 4, 0, 1}, l, panics(4)},
		{"an order that begins with cases that aren't", l, choice(gets(0), sends(1, 5), gets(3), sends(2, 9)), []int{1, 0, 3, 2}, with(l, 2, open(1, 9)), done(3)},
		{"two that are, behind one that isn't", l, choice(gets(0), gets(1), sends(2, 9)), []int{0, 2, 1}, with(l, 2, open(1, 9)), done(2)},
		{"-1 comes first", l, choice(sends(-1, 5), gets(1)), []int{0, 1}, with(l, 1, empty), gave(1, 7)},
		{"-1 several times", l, choice(gets(-1), sends(-1, 5), gets(1), gets(-1), sends(-1, 5)), []int{4, 3, 1, 0, 2}, with(l, 1, empty), gave(2, 7)},
		{"cases against the order of pipes", l, choice(gets(3), sends(2, 6), gets(1)), []int{2, 1, 0}, with(l, 1, empty), gave(2, 7)},
		{"all cases that there may be: the last one first", fulls, all, downTo(most), with(fulls, most-1, empty), gave(most-1, 7)},
		{"all cases that there may be: the first one first", fulls, all, upTo(0, most), with(fulls, 0, empty), gave(0, 7)},
		{"all cases that there may be: the last one is ready", with(alike(most, empty), most-1, full), all, upTo(0, most), alike(most, empty), gave(most-1, 7)},
	}
}

// wakings are choices by which somebody is woken who waits elsewhere, too.
func wakings() []chosen {
	full, empty := open(1, 7), open(1)
	two, three := post(2, 1, 6), post(3, 2, 9)
	gets2, gets3 := post(2, 4, 0), post(3, 5, 0)
	first := []int{0}
	return []chosen{
		{"a getter that gets elsewhere", hub(getting(empty, gets2, gets3), getting(open(0), gets3, gets2)), choice(sends(0, 5)), first,
			hub(getting(empty, gets3), getting(open(0), gets3)), done(0, goesOnWith(2, 4, 5))},
		{"a getter that sends elsewhere, ahead", hub(sending(full, two, three), getting(empty, gets2)), choice(sends(1, 5)), first,
			hub(sending(full, three), empty), done(0, goesOnWith(2, 4, 5))},
		{"a sender that sends elsewhere", hub(sending(full, two, three), sending(open(0), three, two)), choice(gets(0)), first,
			hub(sending(open(1, 6), three), sending(open(0), three)), gave(0, 7, goesOn(2, 1))},
		{"a sender that gets elsewhere, behind", hub(closed(full), sending(open(0), two), getting(empty, gets3, gets2)), choice(gets(1)), first,
			hub(closed(full), open(0), getting(empty, gets3)), gave(0, 6, goesOn(2, 1))},
		{"a getter that waits at all pipes", alike(most, getting(open(0), gets2, gets3)), choice(sends(7, 5)), first,
			alike(most, getting(open(0), gets3)), done(0, goesOnWith(2, 4, 5))},
		{"whoever is not woken stays", hub(getting(empty, gets2), getting(empty, gets3), sending(full, three)), choice(gets(1), sends(0, 5)), []int{0, 1},
			hub(empty, getting(empty, gets3), sending(full, three)), done(1, goesOnWith(2, 4, 5))},
		{"a case that wakes nobody", hub(getting(empty, gets2), open(2, 8)), choice(gets(1), sends(0, 5)), []int{0, 1},
			hub(getting(empty, gets2), open(2)), gave(0, 8)},
	}
}

// P6.2: the first case that is ready, in order, is done, with def and without.
func TestPickDone(t *testing.T) {
	for _, c := range slices.Concat(oneCase(), manyCases(), wakings()) {
		for _, def := range []bool{false, true} {
			then, a, f := pick.Pick(c.l, 100, c.cases, c.order, def)
			same(t, c.what, fmt.Sprint(then, a, f), fmt.Sprint(c.then, c.a, none))
		}
	}
}

// notReady are choices by the task 100 of which no case is ready, and the hub at which it waits.
func notReady() []chosen {
	full, empty := open(1, 7), open(1)
	two, gets3 := post(2, 1, 6), post(3, 2, 0)
	crowd := posts(1, 99)
	return []chosen{
		{what: "no case", l: hub(full, closed(empty)), then: hub(full, closed(empty))},
		{what: "no case, no pipe"},
		{what: "-1 alone", l: hub(full), cases: choice(gets(-1)), then: hub(full)},
		{what: "-1 alone, no pipe", cases: choice(sends(-1, 5), gets(-1))},
		{what: "to get from an empty one", l: hub(full, empty), cases: choice(gets(1)), then: hub(full, getting(empty, post(100, 0, 0)))},
		{what: "to send to a full one", l: hub(full, empty), cases: choice(sends(0, 5)), then: hub(sending(full, post(100, 0, 5)), empty)},
		{what: "Cap of 0", l: hub(open(0), open(0)), cases: choice(gets(1), sends(0, -5)), then: hub(sending(open(0), post(100, 1, -5)), getting(open(0), post(100, 0, 0)))},
		{what: "to send 0", l: hub(open(0)), cases: choice(sends(0, 0)), then: hub(sending(open(0), post(100, 0, 0)))},
		{what: "-1 among others", l: hub(full, empty, open(0)), cases: choice(gets(-1), sends(0, 5), sends(-1, 6), gets(1), gets(-1)),
			then: hub(sending(full, post(100, 1, 5)), getting(empty, post(100, 3, 0)), open(0))},
		{what: "behind others", l: hub(sending(full, two), getting(empty, gets3)), cases: choice(sends(0, 5), gets(1)),
			then: hub(sending(full, two, post(100, 0, 5)), getting(empty, gets3, post(100, 1, 0)))},
		{what: "to send beside senders, whom nobody may get from", l: hub(sending(open(0), two), closed(full)), cases: choice(sends(0, 5)),
			then: hub(sending(open(0), two, post(100, 0, 5)), closed(full))},
		{what: "to get beside getters", l: hub(getting(open(0), gets3)), cases: choice(gets(0)), then: hub(getting(open(0), gets3, post(100, 0, 0)))},
		{what: "the farthest values", l: hub(full, open(0)), cases: choice(sends(1, math.MaxInt), sends(0, math.MinInt)),
			then: hub(sending(full, post(100, 1, math.MinInt)), sending(open(0), post(100, 0, math.MaxInt)))},
		{what: "one below MaxList, of which the last one comes", l: hub(sending(open(0), posts(101, api.MaxList-1)...)), cases: choice(sends(0, 5)),
			then: hub(sending(open(0), append(posts(101, api.MaxList-1), post(100, 0, 5))...))},
		{what: "the last pipe of all", l: alike(most, getting(open(0), crowd...)), cases: choice(gets(most - 1)),
			then: with(alike(most, getting(open(0), crowd...)), most-1, getting(open(0), append(crowd, post(100, 0, 0))...))},
	}
}

// P6.2: nothing is ready: whatever the order, the task waits by all cases but -1, or, with def, by none.
func TestPickWaits(t *testing.T) {
	for _, c := range notReady() {
		for _, order := range [][]int{upTo(0, len(c.cases)), downTo(len(c.cases))} {
			then, a, f := pick.Pick(c.l, 100, c.cases, order, false)
			same(t, c.what, fmt.Sprint(then, a, f), fmt.Sprint(c.then, waiting, none))
			then, a, f = pick.Pick(c.l, 100, c.cases, order, true)
			same(t, c.what+", with def", fmt.Sprint(then, a, f), fmt.Sprint(c.l, done(-1), none))
		}
	}
}

// P6.2: all cases that there may be, and tasks at the edges.
func TestPickWaitsAtAll(t *testing.T) {
	for _, task := range []int{1, math.MaxInt} {
		var want []api.Pipe
		for i := range most {
			want = append(want, getting(open(0), post(task, i, 0)))
		}
		then, a, f := pick.Pick(alike(most, open(0)), task, getsFrom(most), upTo(0, most), false)
		same(t, "at all pipes", fmt.Sprint(then, a, f), fmt.Sprint(want, waiting, none))
		nevers := slices.Repeat(choice(gets(-1)), most)
		then, a, f = pick.Pick(hub(open(1)), task, nevers, downTo(most), false)
		same(t, "all are -1", fmt.Sprint(then, a, f), fmt.Sprint(hub(open(1)), waiting, none))
	}
}

// P6.5: all numbers of cases that are ready, rising.
func TestReady(t *testing.T) {
	full, half, empty := open(2, 7, 8), open(2, 7), open(2)
	sent, got := sending(open(0), post(1, 0, 5)), getting(open(0), post(2, 0, 0))
	l := hub(full, half, empty, closed(empty), closed(full), sent, got, open(0))
	rows := []struct {
		what  string
		l     []api.Pipe
		cases []api.Case
		want  []int
	}{
		{"no case", l, nil, nil},
		{"no pipe and no case", nil, nil, nil},
		{"-1 alone", l, choice(gets(-1), sends(-1, 5), gets(-1)), nil},
		{"to send", l, choice(sends(0, 1), sends(1, 2), sends(2, 3), sends(3, 4), sends(4, 5), sends(5, 6), sends(6, 7), sends(7, 8)), []int{1, 2, 3, 4, 6}},
		{"to get", l, getsFrom(8), []int{0, 1, 3, 4, 5}},
		{"to get, the pipes turned round", l, choice(gets(7), gets(6), gets(5), gets(4), gets(3), gets(2), gets(1), gets(0)), []int{2, 3, 4, 6, 7}},
		{"both, with -1 between", l, choice(gets(-1), gets(0), sends(-1, 5), sends(5, 1), gets(7), sends(6, 1)), []int{1, 5}},
		{"none of several", l, choice(sends(0, 1), gets(2), sends(5, 1), gets(6), sends(7, 1)), nil},
		{"all that there may be", alike(most, full), getsFrom(most), upTo(0, most)},
		{"the last of all", with(alike(most, empty), most-1, full), getsFrom(most), []int{most - 1}},
		{"all but the last", with(alike(most, full), most-1, empty), getsFrom(most), upTo(0, most-1)},
	}
	for _, r := range rows {
		for _, task := range []int{100, 3, math.MaxInt} {
			numbers, f := pick.Ready(r.l, task, r.cases)
			same(t, r.what, fmt.Sprint(numbers, f), fmt.Sprint(r.want, none))
		}
	}
}
