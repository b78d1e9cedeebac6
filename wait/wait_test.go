package wait_test

import (
	"fmt"
	"math"
	"testing"

	"taskmill/api"
	"taskmill/wait"
)

// The chapter's examples.
func TestExamples(t *testing.T) {
	l, f := wait.Add(nil, 5, 3, false)
	same(t, "add", fmt.Sprint(l, f), "[{5 [3]}] {0 0}")
	left, woken, f := wait.Wake(l, 5, 9)
	same(t, "wake", fmt.Sprint(left, woken, f), "[] [3] {0 0}")
}

// P4.1: what is right has no fault.
func TestCheckRight(t *testing.T) {
	const most = api.MaxList
	rows := []struct {
		what string
		l    []api.Line
	}{
		{"nothing", nil},
		{"empty", []api.Line{}},
		{"one line of one task", lines(line(5, 1))},
		{"the address 0", lines(line(0, 1))},
		{"tasks in any order", lines(line(5, 9, 1, 4), line(6, 3, 8, 2))},
		{"addresses below 0", lines(line(-7, 1), line(-6, 2), line(0, 3), line(1, 4))},
		{"farthest addresses", lines(line(math.MinInt, 1), line(math.MinInt+1, 2), line(math.MaxInt-1, 3), line(math.MaxInt, 4))},
		{"farthest tasks", lines(line(1, math.MaxInt, 1), line(2, math.MaxInt-1, 1<<32+1))},
		{"a task that is an address", lines(line(1, 2), line(2, 1))},
		{"MaxList lines", singles(most)},
		{"MaxList tasks in one line", lines(line(5, upTo(1, most)...))},
		{"MaxList tasks in two lines", lines(line(5, upTo(1, most-1)...), line(6, most))},
		{"MaxList tasks in three lines", lines(line(5, 1), line(6, upTo(2, most-3)...), line(7, most-1, most))},
	}
	for _, r := range rows {
		same(t, r.what, wait.Check(r.l), none)
	}
}

// P4.1: each fault, its place, and which is answered where several apply.
func TestCheckFaults(t *testing.T) {
	for _, w := range wrongs() {
		same(t, w.what, wait.Check(w.l), w.want)
	}
}

// P4.2: the lines then.
func TestAdd(t *testing.T) {
	two := lines(line(5, 1, 2), line(8, 3))
	far := lines(line(math.MinInt, 1), line(math.MaxInt, 2))
	rows := []struct {
		what        string
		l           []api.Line
		at          int
		last, first []api.Line // the lines then, without first and with it
	}{
		{"to none", nil, 5, lines(line(5, 99)), lines(line(5, 99))},
		{"to none, below 0", nil, -5, lines(line(-5, 99)), lines(line(-5, 99))},
		{"to none, at 0", nil, 0, lines(line(0, 99)), lines(line(0, 99))},
		{"to a line of one", two, 8, lines(line(5, 1, 2), line(8, 3, 99)), lines(line(5, 1, 2), line(8, 99, 3))},
		{"to a line of two", two, 5, lines(line(5, 1, 2, 99), line(8, 3)), lines(line(5, 99, 1, 2), line(8, 3))},
		{"a new line ahead of all", two, 4, lines(line(4, 99), line(5, 1, 2), line(8, 3)), lines(line(4, 99), line(5, 1, 2), line(8, 3))},
		{"a new line just behind the first", two, 6, lines(line(5, 1, 2), line(6, 99), line(8, 3)), lines(line(5, 1, 2), line(6, 99), line(8, 3))},
		{"a new line just ahead of the last", two, 7, lines(line(5, 1, 2), line(7, 99), line(8, 3)), lines(line(5, 1, 2), line(7, 99), line(8, 3))},
		{"a new line behind all", two, 9, lines(line(5, 1, 2), line(8, 3), line(9, 99)), lines(line(5, 1, 2), line(8, 3), line(9, 99))},
		{"a new line below 0", two, -8, lines(line(-8, 99), line(5, 1, 2), line(8, 3)), lines(line(-8, 99), line(5, 1, 2), line(8, 3))},
		{"the least address", two, math.MinInt, lines(line(math.MinInt, 99), line(5, 1, 2), line(8, 3)), lines(line(math.MinInt, 99), line(5, 1, 2), line(8, 3))},
		{"the greatest address", two, math.MaxInt, lines(line(5, 1, 2), line(8, 3), line(math.MaxInt, 99)), lines(line(5, 1, 2), line(8, 3), line(math.MaxInt, 99))},
		{"between the farthest", far, 0, lines(far[0], line(0, 99), far[1]), lines(far[0], line(0, 99), far[1])},
		{"to the line of the least", far, math.MinInt, lines(line(math.MinInt, 1, 99), far[1]), lines(line(math.MinInt, 99, 1), far[1])},
		{"to the line of the greatest", far, math.MaxInt, lines(far[0], line(math.MaxInt, 2, 99)), lines(far[0], line(math.MaxInt, 99, 2))},
	}
	for _, r := range rows {
		then, f := wait.Add(r.l, r.at, 99, false)
		same(t, r.what, fmt.Sprint(then, f), fmt.Sprint(r.last, none))
		then, f = wait.Add(r.l, r.at, 99, true)
		same(t, r.what+", first", fmt.Sprint(then, f), fmt.Sprint(r.first, none))
	}
}

// P4.2: tasks from 1 to the farthest, and as many as there may be.
func TestAddLimits(t *testing.T) {
	const most = api.MaxList
	then, f := wait.Add(lines(line(5, 2)), 5, 1, false)
	same(t, "task 1", fmt.Sprint(then, f), "[{5 [2 1]}] {0 0}")
	then, f = wait.Add(lines(line(5, 2)), 5, math.MaxInt, true)
	same(t, "farthest task", fmt.Sprint(then, f), fmt.Sprint(lines(line(5, math.MaxInt, 2)), none))
	then, f = wait.Add(singles(most-1), 10*most, most, false)
	same(t, "the last line of MaxList", fmt.Sprint(then, f), fmt.Sprint(singles(most), none))
	then, f = wait.Add(lines(line(5, upTo(1, most-1)...)), 5, most, false)
	same(t, "the last task of MaxList", fmt.Sprint(then, f), fmt.Sprint(lines(line(5, upTo(1, most)...)), none))
	then, f = wait.Add(lines(line(5, upTo(2, most-2)...), line(6, most)), 5, 1, true)
	same(t, "the last one, first", fmt.Sprint(then, f), fmt.Sprint(lines(line(5, upTo(1, most-1)...), line(6, most)), none))
}

// P4.2: each fault, its place, and the order where several apply; where it would stand changes nothing of it.
func TestAddFaults(t *testing.T) {
	const most = api.MaxList
	some := lines(line(5, 3, 1, 4), line(8, 2))
	full := lines(line(5, upTo(1, most-1)...), line(8, most))
	rows := []struct {
		what string
		l    []api.Line
		task int
		want api.Fault
	}{
		{"task 0", some, 0, fault(api.ErrRange, -1)},
		{"task 0 to none", nil, 0, fault(api.ErrRange, -1)},
		{"task below 0", some, -1, fault(api.ErrRange, -1)},
		{"task far below", some, math.MinInt, fault(api.ErrRange, -1)},
		{"first of the first line", some, 3, fault(api.ErrTwice, -1)},
		{"last of the first line", some, 4, fault(api.ErrTwice, -1)},
		{"alone in the last line", some, 2, fault(api.ErrTwice, -1)},
		{"MaxList tasks", full, most + 1, fault(api.ErrMuch, 0)},
		{"MaxList lines", singles(most), most + 1, fault(api.ErrMuch, 0)},
		{"MaxList tasks in one line", lines(line(5, upTo(1, most)...)), math.MaxInt, fault(api.ErrMuch, 0)},
		{"below 1 ahead of much", full, 0, fault(api.ErrRange, -1)},
		{"twice ahead of much", full, 1, fault(api.ErrTwice, -1)},
		{"twice ahead of much, the last line", full, most, fault(api.ErrTwice, -1)},
	}
	for _, at := range []int{5, 6, -1} {
		for _, r := range rows {
			then, f := wait.Add(r.l, at, r.task, at == 6)
			same(t, r.what, f, r.want)
			bare(t, r.what, then, nil, 0)
		}
		for _, w := range wrongs() {
			for _, task := range []int{9 * most, 0, 1} {
				then, f := wait.Add(w.l, at, task, at == 6)
				same(t, fmt.Sprint(w.what, ", ahead of task ", task), f, w.want)
				bare(t, w.what, then, nil, 0)
			}
		}
	}
}

// P4.4: the lines then, and the address.
func TestDrop(t *testing.T) {
	const most = api.MaxList
	some := lines(line(-5, 3, 1, 4), line(0, 9), line(8, 2, 7))
	all := upTo(1, most)
	rows := []struct {
		what string
		l    []api.Line
		task int
		then []api.Line
		at   int
	}{
		{"the first", some, 3, lines(line(-5, 1, 4), some[1], some[2]), -5},
		{"between two", some, 1, lines(line(-5, 3, 4), some[1], some[2]), -5},
		{"the last", some, 4, lines(line(-5, 3, 1), some[1], some[2]), -5},
		{"alone, at 0: its line goes", some, 9, lines(some[0], some[2]), 0},
		{"the last line's first", some, 2, lines(some[0], some[1], line(8, 7)), 8},
		{"the last line's last", some, 7, lines(some[0], some[1], line(8, 2)), 8},
		{"the only one", lines(line(5, 1)), 1, nil, 5},
		{"the first line goes", lines(line(5, 1), line(6, 2)), 1, lines(line(6, 2)), 5},
		{"the last line goes", lines(line(5, 1), line(6, 2)), 2, lines(line(5, 1)), 6},
		{"at the least address", lines(line(math.MinInt, 1, 2)), 2, lines(line(math.MinInt, 1)), math.MinInt},
		{"at the greatest address", lines(line(math.MaxInt, math.MaxInt, 2)), math.MaxInt, lines(line(math.MaxInt, 2)), math.MaxInt},
		{"a task that is an address", lines(line(1, 2), line(2, 1)), 1, lines(line(1, 2)), 2},
		{"the first of MaxList lines", singles(most), 1, singles(most)[1:], 10},
		{"the last of MaxList lines", singles(most), most, singles(most - 1), 10 * most},
		{"the last of MaxList tasks", lines(line(5, all...)), most, lines(line(5, all[:most-1]...)), 5},
	}
	for _, r := range rows {
		then, at, f := wait.Drop(r.l, r.task)
		same(t, r.what, fmt.Sprint(then, at, f), fmt.Sprint(r.then, r.at, none))
	}
}

// P4.4: each fault.
func TestDropFaults(t *testing.T) {
	some := lines(line(5, 3, 1, 4), line(8, 2))
	for _, task := range []int{5, 8, 6, 0, -1, math.MinInt, math.MaxInt} {
		for _, l := range [][]api.Line{nil, {}, some, lines(line(5, upTo(9, api.MaxList)...))} {
			then, at, f := wait.Drop(l, task)
			same(t, fmt.Sprint("it does not wait: ", task), f, fault(api.ErrNone, 0))
			bare(t, "it does not wait", then, nil, at)
		}
	}
	for _, w := range wrongs() { // whether the task waits or not
		for _, task := range []int{1, 9 * api.MaxList, 0} {
			then, at, f := wait.Drop(w.l, task)
			same(t, w.what, f, w.want)
			bare(t, w.what, then, nil, at)
		}
	}
}
