package pick_test

import (
	"fmt"
	"math"
	"slices"
	"testing"

	"taskmill/api"
	"taskmill/pick"
)

// wrongChoice is a hub that is right, a task and cases of which one is wrong, and what is told of it.
type wrongChoice struct {
	what  string
	l     []api.Pipe
	task  int
	cases []api.Case
	want  api.Fault
}

func wrongChoices() []wrongChoice {
	return slices.Concat(wrongTasks(), wrongCases(), fullPipes(), wrongOrders())
}

func wrongTasks() []wrongChoice {
	l := hub(sending(open(0), post(1, 0, 5), post(2, 0, 5)), open(1), getting(open(1), post(3, 0, 0), post(2, 1, 0)))
	cases := choice(sends(1, 5))
	far := with(alike(most, open(0)), most-1, getting(open(0), post(math.MaxInt, 0, 0)))
	return []wrongChoice{
		{"task 0", l, 0, cases, fault(api.ErrRange, -1)},
		{"task -1", l, -1, cases, fault(api.ErrRange, -1)},
		{"the task far below", l, math.MinInt, nil, fault(api.ErrRange, -1)},
		{"it waits to send", l, 1, cases, fault(api.ErrTwice, -1)},
		{"it waits to get", l, 3, cases, fault(api.ErrTwice, -1)},
		{"it waits at two pipes", l, 2, cases, fault(api.ErrTwice, -1)},
		{"it waits, and has no case", l, 2, nil, fault(api.ErrTwice, -1)},
		{"it waits at the last pipe of all", far, math.MaxInt, cases, fault(api.ErrTwice, -1)},
		{"a case too many", l, 100, slices.Repeat(choice(gets(-1)), most+1), fault(api.ErrMany, -1)},
		{"far too many cases", l, 100, slices.Repeat(choice(sends(-1, 5)), 3000), fault(api.ErrMany, -1)},
		{"a case too many, with as many pipes as there may be", alike(most, open(1)), 100, append(getsFrom(most), gets(-1)), fault(api.ErrMany, -1)},
	}
}

func wrongCases() []wrongChoice {
	l := hub(open(1), open(1, 7), closed(open(1)))
	return []wrongChoice{
		{"pipe -2", l, 100, choice(gets(-2)), fault(api.ErrRange, 0)},
		{"a pipe far below", l, 100, choice(gets(0), gets(-1), sends(math.MinInt, 5)), fault(api.ErrRange, 2)},
		{"one beyond the last pipe", l, 100, choice(gets(0), sends(3, 5)), fault(api.ErrRange, 1)},
		{"a pipe far beyond", l, 100, choice(gets(math.MaxInt)), fault(api.ErrRange, 0)},
		{"pipe 0 of none", nil, 100, choice(gets(-1), gets(0)), fault(api.ErrRange, 1)},
		{"one beyond all pipes that there may be", alike(most, open(1)), 100, with(getsFrom(most), most-1, gets(most)), fault(api.ErrRange, most-1)},
		{"a pipe just ahead", l, 100, choice(gets(0), gets(0)), fault(api.ErrTwice, 1)},
		{"a pipe ahead, to send and to get", l, 100, choice(gets(-1), sends(2, 5), gets(0), gets(2)), fault(api.ErrTwice, 3)},
		{"a pipe ahead, to get and to send", l, 100, choice(gets(1), sends(1, 5), gets(1)), fault(api.ErrTwice, 1)},
		{"a pipe ahead, with another value", l, 100, choice(sends(1, 5), sends(1, 6)), fault(api.ErrTwice, 1)},
		{"the first pipe again, of all cases that there may be", alike(most, open(1)), 100, with(getsFrom(most), most-1, gets(0)), fault(api.ErrTwice, most-1)},
		{"to get, with a value", l, 100, choice(api.Case{Pipe: 0, Value: 1}), fault(api.ErrForm, 0)},
		{"to get, with a value below 0", l, 100, choice(sends(0, 5), api.Case{Pipe: 2, Value: -1}), fault(api.ErrForm, 1)},
		{"to get from -1, with a value", l, 100, choice(gets(-1), gets(1), api.Case{Pipe: -1, Value: math.MinInt}), fault(api.ErrForm, 2)},
		{"to get from -1, with a value, no pipe", nil, 100, choice(api.Case{Pipe: -1, Value: 5}), fault(api.ErrForm, 0)},
	}
}

// fullPipes are choices among pipes that have MaxList of all: they are told, whether the case could be done or not.
func fullPipes() []wrongChoice {
	sent, got := sending(open(0), posts(1, api.MaxList)...), getting(open(1), posts(1, api.MaxList)...)
	mixed := sending(open(1000, upTo(1, 1000)...), posts(1, api.MaxList-1000)...)
	l := hub(open(1), sent, got, mixed)
	return []wrongChoice{
		{"to send beside MaxList senders", l, 9000, choice(sends(1, 5)), fault(api.ErrMuch, 0)},
		{"to get from MaxList senders", l, 9000, choice(gets(0), gets(1)), fault(api.ErrMuch, 1)},
		{"to send to MaxList getters", l, 9000, choice(gets(-1), sends(0, 5), sends(2, 5)), fault(api.ErrMuch, 2)},
		{"to get beside MaxList getters", l, 9000, choice(gets(2)), fault(api.ErrMuch, 0)},
		{"to send beside MaxList items and senders", l, 9000, choice(sends(3, 5), gets(0)), fault(api.ErrMuch, 0)},
		{"to get from MaxList items and senders", l, 9000, choice(sends(0, 5), gets(3)), fault(api.ErrMuch, 1)},
	}
}

// wrongOrders are choices with more than one thing wrong.
func wrongOrders() []wrongChoice {
	got := getting(open(1), posts(1, api.MaxList)...)
	l := hub(open(1), got, open(1))
	value, many := api.Case{Pipe: 0, Value: 1}, slices.Repeat(choice(gets(-2)), most+1)
	return []wrongChoice{
		{"the task ahead of too many cases", l, 0, many, fault(api.ErrRange, -1)},
		{"the task ahead of a case", l, -5, choice(gets(9)), fault(api.ErrRange, -1)},
		{"that it waits ahead of too many cases", l, 1, many, fault(api.ErrTwice, -1)},
		{"that it waits ahead of a case", l, 1, choice(gets(9)), fault(api.ErrTwice, -1)},
		{"that it waits ahead of its full pipe", l, 1, choice(sends(1, 5)), fault(api.ErrTwice, -1)},
		{"too many cases ahead of them", l, 9000, many, fault(api.ErrMany, -1)},
		{"the pipe ahead of the value", l, 9000, choice(api.Case{Pipe: 3, Value: 1}), fault(api.ErrRange, 0)},
		{"the pipe ahead of the value, below", l, 9000, choice(gets(0), api.Case{Pipe: -2, Value: 1}), fault(api.ErrRange, 1)},
		{"a pipe beyond, twice", l, 9000, choice(gets(0), gets(3), gets(3)), fault(api.ErrRange, 1)},
		{"a pipe ahead, ahead of the value", l, 9000, choice(gets(0), value), fault(api.ErrTwice, 1)},
		{"the value ahead of a full pipe", l, 9000, choice(api.Case{Pipe: 1, Value: 1}), fault(api.ErrForm, 0)},
		{"a full pipe, twice", l, 9000, choice(gets(1), gets(1)), fault(api.ErrMuch, 0)},
		{"an earlier case's value ahead of a later one's pipe", l, 9000, choice(gets(-1), value, gets(9)), fault(api.ErrForm, 1)},
		{"an earlier case's full pipe ahead of a later one's pipe", l, 9000, choice(sends(1, 5), gets(9)), fault(api.ErrMuch, 0)},
		{"an earlier case's full pipe ahead of a later one twice", l, 9000, choice(gets(0), sends(1, 5), gets(0)), fault(api.ErrMuch, 1)},
		{"an earlier case's full pipe ahead of a later one's value", l, 9000, choice(sends(1, 5), value), fault(api.ErrMuch, 0)},
		{"an earlier case twice ahead of a later one's pipe", l, 9000, choice(gets(0), sends(0, 5), gets(-2)), fault(api.ErrTwice, 1)},
		{"an earlier case's value ahead of a later one's full pipe", l, 9000, choice(value, sends(1, 5)), fault(api.ErrForm, 0)},
	}
}

// orders are one that goes with so many cases, and some that don't.
func orders(n int) [][]int {
	return [][]int{upTo(0, n), nil, {-1}, upTo(0, n+1), upTo(1, n)}
}

// P6.2 and P6.5: each fault of the task and its cases, its place, and which is answered where several apply;
// those of order come behind.
func TestChoiceFaults(t *testing.T) {
	for _, w := range wrongChoices() {
		same(t, w.what+": the hub", pick.Check(w.l), none)
		for _, order := range orders(len(w.cases)) {
			for _, def := range []bool{false, true} {
				then, a, f := pick.Pick(w.l, w.task, w.cases, order, def)
				same(t, w.what, f, w.want)
				bare(t, w.what, then, a)
			}
		}
		numbers, f := pick.Ready(w.l, w.task, w.cases)
		same(t, w.what+", ready", fmt.Sprint(numbers, f), fmt.Sprint([]int{}, w.want))
	}
}

// P6.2 and P6.5: what Check says of the hub comes ahead of all that is wrong with the choice.
func TestHubFaultsFirst(t *testing.T) {
	for _, w := range wrongs() {
		for _, task := range []int{100, 0, 1} {
			for _, cases := range [][]api.Case{nil, choice(gets(0)), choice(gets(-2)), slices.Repeat(choice(gets(-1)), most+1)} {
				then, a, f := pick.Pick(w.l, task, cases, upTo(0, len(cases)), true)
				same(t, w.what, f, w.want)
				bare(t, w.what, then, a)
				then, a, f = pick.Pick(w.l, task, cases, []int{7}, false)
				same(t, w.what, f, w.want)
				bare(t, w.what, then, a)
				numbers, f := pick.Ready(w.l, task, cases)
				same(t, w.what+", ready", fmt.Sprint(numbers, f), fmt.Sprint([]int{}, w.want))
			}
		}
	}
}

// P6.2: an order has all numbers of the cases, each once, whether a case is ready or not.
func TestOrderFaults(t *testing.T) {
	ready, not := hub(open(1, 7), open(1, 7), open(1, 7)), hub(open(1), open(1), open(1))
	rows := []struct {
		what  string
		n     int
		order []int
	}{
		{"a number without a case", 0, []int{0}},
		{"none for a case", 1, nil},
		{"-1 for a case", 1, []int{-1}},
		{"1 for a case", 1, []int{1}},
		{"the number of one case twice", 1, []int{0, 0}},
		{"one too few", 3, []int{0, 1}},
		{"one too few, the last ones", 3, []int{1, 2}},
		{"one too many", 3, []int{2, 1, 0, 3}},
		{"one again behind all", 3, []int{0, 1, 2, 0}},
		{"one twice just behind", 3, []int{0, 0, 1}},
		{"one twice at the end", 3, []int{0, 1, 1}},
		{"one twice, around another", 3, []int{2, 0, 2}},
		{"one below", 3, []int{0, -1, 2}},
		{"one beyond", 3, []int{3, 2, 1}},
		{"from 1 on", 3, []int{1, 2, 3}},
		{"far below", 3, []int{0, 1, math.MinInt}},
		{"far beyond", 3, []int{math.MaxInt, 1, 2}},
		{"a great many", 3, make([]int, 100000)},
	}
	for _, r := range rows {
		for _, l := range [][]api.Pipe{ready, not} {
			for _, def := range []bool{false, true} {
				then, a, f := pick.Pick(l, 100, getsFrom(r.n), r.order, def)
				same(t, r.what, f, fault(api.ErrSize, -1))
				bare(t, r.what, then, a)
			}
		}
	}
}
