package wait_test

import (
	"fmt"
	"math"
	"math/rand"
	"slices"
	"testing"

	"taskmill/api"
)

func fault(code, at int) api.Fault { return api.Fault{Code: code, At: at} }

var none = api.Fault{}

func line(at int, tasks ...int) api.Line { return api.Line{At: at, Tasks: tasks} }

func lines(l ...api.Line) []api.Line { return l }

// upTo is the list of first, first + 1, and so on, n tasks in all.
func upTo(first, n int) []int {
	list := make([]int, n)
	for i := range list {
		list[i] = first + i
	}
	return list
}

// join is a new list of the lists, one behind the other.
func join(lists ...[]int) []int { return slices.Concat(lists...) }

// singles are n lines of one task each: at the address 10 the task 1, at 20 the task 2, and so on.
func singles(n int) []api.Line {
	l := make([]api.Line, n)
	for i := range l {
		l[i] = line(10*(i+1), i+1)
	}
	return l
}

// with is the new list of lines with another one at the place i.
func with(l []api.Line, i int, other api.Line) []api.Line {
	l = slices.Clone(l)
	l[i] = other
	return l
}

// same holds two things against each other as they are told: nil and empty lists are the same.
func same(t *testing.T, what string, got, want any) {
	t.Helper()
	g, w := fmt.Sprint(got), fmt.Sprint(want)
	if g == w {
		return
	}
	if len(g)+len(w) > 2000 {
		t.Errorf("%s: not as wanted (%d and %d bytes)", what, len(g), len(w))
		return
	}
	t.Errorf("%s: got %v, want %v", what, g, w)
}

// bare asks that nothing stands beside a fault.
func bare(t *testing.T, what string, l []api.Line, list []int, number int) {
	t.Helper()
	if len(l) != 0 || len(list) != 0 || number != 0 {
		t.Errorf("%s: beside the fault stand %d lines, %d tasks and %d", what, len(l), len(list), number)
	}
}

// wrongLines are lines of which Check says something, and what it says.
type wrongLines struct {
	what string
	l    []api.Line
	want api.Fault
}

func wrongs() []wrongLines {
	return slices.Concat(wrongCounts(), wrongForms(), wrongTasks(), wrongTwofold())
}

func wrongCounts() []wrongLines {
	const most = api.MaxList
	all := upTo(1, most)
	return []wrongLines{
		{"a line too many", singles(most + 1), fault(api.ErrMany, 0)},
		{"far too many lines", singles(3 * most), fault(api.ErrMany, 0)},
		{"a task too many in the only line", lines(line(5, upTo(1, most+1)...)), fault(api.ErrMany, 0)},
		{"far too many tasks", lines(line(5, upTo(1, 3*most)...)), fault(api.ErrMany, 0)},
		{"a task too many in the second line", lines(line(5, all...), line(6, most+1)), fault(api.ErrMany, 1)},
		{"the third line has too many", lines(line(5, 1, 2), line(6, 3), line(7, upTo(4, most-2)...), line(8, most+2)), fault(api.ErrMany, 2)},
		{"the last of MaxList lines has two", with(singles(most), most-1, line(10*most, most, most+1)), fault(api.ErrMany, most-1)},
		{"the first of MaxList lines has two", with(singles(most), 0, line(10, 1, most+1)), fault(api.ErrMany, most-1)},
	}
}

func wrongForms() []wrongLines {
	const most = api.MaxList
	return []wrongLines{
		{"one line without tasks", lines(line(5)), fault(api.ErrForm, 0)},
		{"a zero line", make([]api.Line, 1), fault(api.ErrForm, 0)},
		{"an empty list of tasks", lines(api.Line{At: 5, Tasks: []int{}}), fault(api.ErrForm, 0)},
		{"the second without tasks", lines(line(5, 1), line(6), line(7, 2)), fault(api.ErrForm, 1)},
		{"the last without tasks", lines(line(5, 1), line(6, 2), line(7)), fault(api.ErrForm, 2)},
		{"the last of MaxList without tasks", with(singles(most), most-1, line(10*most)), fault(api.ErrForm, most-1)},
		{"one address twice", lines(line(5, 1), line(5, 2)), fault(api.ErrForm, 1)},
		{"an address below the one ahead", lines(line(5, 1), line(4, 2)), fault(api.ErrForm, 1)},
		{"addresses below 0 that fall", lines(line(-5, 1), line(-6, 2)), fault(api.ErrForm, 1)},
		{"the third is above the first alone", lines(line(1, 1), line(7, 2), line(4, 3)), fault(api.ErrForm, 2)},
		{"farthest addresses that fall", lines(line(math.MaxInt, 1), line(math.MinInt, 2)), fault(api.ErrForm, 1)},
		{"the least address twice", lines(line(math.MinInt, 1), line(math.MinInt, 2)), fault(api.ErrForm, 1)},
		{"the greatest address twice", lines(line(0, 3), line(math.MaxInt, 1), line(math.MaxInt, 2)), fault(api.ErrForm, 2)},
		{"the last of MaxList is at the address of the one ahead", with(singles(most), most-1, line(10*(most-1), most)), fault(api.ErrForm, most-1)},
	}
}

func wrongTasks() []wrongLines {
	const most = api.MaxList
	return []wrongLines{
		{"task 0", lines(line(5, 0)), fault(api.ErrRange, 0)},
		{"task below 0", lines(line(5, -1)), fault(api.ErrRange, 0)},
		{"task far below", lines(line(5, 1, math.MinInt)), fault(api.ErrRange, 0)},
		{"the second line's third task", lines(line(5, 1, 2), line(6, 3, 4, 0, 5)), fault(api.ErrRange, 1)},
		{"the last task of MaxList", lines(line(5, upTo(1, most-2)...), line(6, most, 0)), fault(api.ErrRange, 1)},
		{"the last line of MaxList", with(singles(most), most-1, line(10*most, 0)), fault(api.ErrRange, most-1)},
		{"there just ahead", lines(line(5, 4, 4)), fault(api.ErrTwice, 0)},
		{"there ahead in its line", lines(line(4, 9), line(5, 4, 1, 4)), fault(api.ErrTwice, 1)},
		{"there in the line ahead", lines(line(5, 4), line(6, 4)), fault(api.ErrTwice, 1)},
		{"there two lines ahead", lines(line(5, 8, 4, 7), line(6, 1), line(7, 2, 4)), fault(api.ErrTwice, 2)},
		{"farthest task twice", lines(line(5, math.MaxInt), line(6, 1, math.MaxInt)), fault(api.ErrTwice, 1)},
		{"the last of MaxList is the first", lines(line(5, join(upTo(1, most-1), []int{1})...)), fault(api.ErrTwice, 0)},
		{"the last line of MaxList has the first one's", with(singles(most), most-1, line(10*most, 1)), fault(api.ErrTwice, most-1)},
	}
}

// wrongTwofold are lines with more than one thing wrong.
func wrongTwofold() []wrongLines {
	const most = api.MaxList
	over := upTo(1, most+1)
	return []wrongLines{
		{"too many lines ahead of all else", make([]api.Line, most+1), fault(api.ErrMany, 0)},
		{"too many lines ahead of too many tasks", with(singles(most+1), 4, line(50, over...)), fault(api.ErrMany, 0)},
		{"too many tasks ahead of the address", lines(line(5, most+2), line(5, over...)), fault(api.ErrMany, 1)},
		{"too many tasks ahead of a task below 1", lines(line(5, make([]int, most+1)...)), fault(api.ErrMany, 0)},
		{"too many tasks ahead of one twice", lines(line(5, 1), line(6, upTo(1, most)...)), fault(api.ErrMany, 1)},
		{"an earlier form ahead of later too many tasks", lines(line(5), line(6, over...)), fault(api.ErrForm, 0)},
		{"an earlier task below 1 ahead of later too many", lines(line(5, 0), line(6, over...)), fault(api.ErrRange, 0)},
		{"an earlier task twice ahead of later too many", lines(line(5, 7, 7), line(6, over...)), fault(api.ErrTwice, 0)},
		{"the address ahead of a task below 1", lines(line(5, 1), line(5, 0)), fault(api.ErrForm, 1)},
		{"the address ahead of a task twice", lines(line(5, 1), line(4, 1)), fault(api.ErrForm, 1)},
		{"an earlier task below 1 ahead of a later form", lines(line(5, 0), line(5, 1)), fault(api.ErrRange, 0)},
		{"an earlier task twice ahead of a later form", lines(line(5, 1), line(6, 2, 1), line(7)), fault(api.ErrTwice, 1)},
		{"an earlier form ahead of a later task below 1", lines(line(5, 1), line(6), line(7, 0)), fault(api.ErrForm, 1)},
		{"below 1 ahead of twice at one task", lines(line(5, 0, 0)), fault(api.ErrRange, 0)},
		{"an earlier task below 1 ahead of a later one twice", lines(line(5, 3, 0, 3)), fault(api.ErrRange, 0)},
		{"an earlier task twice ahead of a later one below 1", lines(line(5, 3, 3, 0)), fault(api.ErrTwice, 0)},
		{"twice across lines ahead of a later one below 1", lines(line(5, 3), line(6, 3, 0)), fault(api.ErrTwice, 1)},
		{"the first of two lines with a task below 1", lines(line(5, 3), line(6, 0), line(7, -1)), fault(api.ErrRange, 1)},
		{"the first of two lines with a task twice", lines(line(5, 3), line(6, 3), line(7, 3)), fault(api.ErrTwice, 1)},
		{"the first of two lines without tasks", lines(line(5, 3), line(6), line(7)), fault(api.ErrForm, 1)},
	}
}

// anyLines are right lines at some of the addresses from -3 to 3, with at most so many tasks each, in any order.
func anyLines(r *rand.Rand, most int) []api.Line {
	tasks := r.Perm(7*most + 5)
	var l []api.Line
	for at := -3; at <= 3; at++ {
		n := r.Intn(most + 1)
		if n > 0 {
			l = append(l, api.Line{At: at})
		}
		for range n {
			l[len(l)-1].Tasks = append(l[len(l)-1].Tasks, 1+tasks[0])
			tasks = tasks[1:]
		}
	}
	return l
}

// model is who waits, by the address: what the document's words speak of, without places of lines.
type model map[int][]int

func modelOf(l []api.Line) model {
	m := model{}
	for _, line := range l {
		m[line.At] = slices.Clone(line.Tasks)
	}
	return m
}

// lines are those of a model, by their addresses, rising, none without tasks.
func (m model) lines() []api.Line {
	var l []api.Line
	for at, tasks := range m {
		if len(tasks) > 0 {
			l = append(l, api.Line{At: at, Tasks: tasks})
		}
	}
	slices.SortFunc(l, func(a, b api.Line) int { return a.At - b.At })
	return l
}

// where is the address for which a task waits, and whether it does.
func (m model) where(task int) (int, bool) {
	for at, tasks := range m {
		if slices.Contains(tasks, task) {
			return at, true
		}
	}
	return 0, false
}

// wake takes tasks one by one, from the first place on, n times or until there is none.
func (m model) wake(at, n int) []int {
	var woken []int
	for ; n > 0 && len(m[at]) > 0; n-- {
		woken = append(woken, m[at][0])
		m[at] = slices.Clone(m[at][1:])
	}
	return woken
}

// wildNumber is mostly a small one, at times one of the farthest.
func wildNumber(r *rand.Rand) int {
	far := []int{math.MinInt, math.MaxInt, -1, 0, 1 << 32}
	if r.Intn(24) == 0 {
		return far[r.Intn(len(far))]
	}
	return 1 + r.Intn(20)
}

func wildList(r *rand.Rand, n int) []int {
	list := make([]int, n)
	for i := range list {
		list[i] = wildNumber(r)
	}
	return list
}
