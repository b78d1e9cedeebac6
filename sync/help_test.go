package sync_test

import (
	"fmt"
	"math"
	"slices"
	"testing"

	"taskmill/api"
)

const (
	most = api.MaxList
	much = api.MaxNum
	last = math.MaxInt // the farthest task
)

func fault(code, at int) api.Fault { return api.Fault{Code: code, At: at} }

var none = api.Fault{}

// group, once, sema and gate are these things with those who wait.
func group(count int, line ...int) api.Group   { return api.Group{Count: count, Line: line} }
func once(by int, line ...int) api.Once        { return api.Once{By: by, Line: line} }
func done(by int, line ...int) api.Once        { return api.Once{By: by, Done: true, Line: line} }
func sema(free int, line ...api.Want) api.Sema { return api.Sema{Free: free, Line: line} }
func gate(need int, line ...int) api.Gate      { return api.Gate{Need: need, Line: line} }
func wants(task, n int) api.Want               { return api.Want{Task: task, N: n} }
func writes(task, n int) api.Want              { return api.Want{Task: task, Write: true, N: n} }
func with[E any](list []E, i int, other E) []E {
	return slices.Concat(list[:i], []E{other}, list[i+1:])
}
func plus[E any](list []E, behind ...E) []E { return slices.Concat(list, behind) }
func told(parts ...any) string              { return fmt.Sprintln(parts...) }

// upTo is the list of first, first + 1, and so on, n numbers in all.
func upTo(first, n int) []int {
	list := make([]int, n)
	for i := range list {
		list[i] = first + i
	}
	return list
}

// manyWant are n who wait for so much each: the tasks first, first + 1, and so on.
func manyWant(first, n, each int) []api.Want {
	list := make([]api.Want, n)
	for i := range list {
		list[i] = wants(first+i, each)
	}
	return list
}

// same holds two things against each other as they are told: nil and empty lists are the same.
func same(t *testing.T, what string, got, want any) {
	t.Helper()
	g, w := fmt.Sprint(got), fmt.Sprint(want)
	if g == w {
		return
	}
	if len(g)+len(w) > 2000 {
		t.Errorf("%s: not as wanted (%d and %d bytes)", what, len(g), len(w))
		return
	}
	t.Errorf("%s: got %v, want %v", what, g, w)
}

// wrongLine is a line of tasks that has a fault.
type wrongLine struct {
	what string
	line []int
	want api.Fault
}

func wrongLines() []wrongLine {
	all := upTo(1, most)
	return []wrongLine{
		{"one too many", upTo(1, most+1), fault(api.ErrMany, 0)},
		{"far too many", upTo(1, 3*most), fault(api.ErrMany, 0)},
		{"one too many, ahead of a task 0", upTo(0, most+1), fault(api.ErrMany, 0)},
		{"one too many, ahead of a task twice", plus(all, 1), fault(api.ErrMany, 0)},
		{"task 0", []int{0}, fault(api.ErrRange, 1)},
		{"task -1", []int{3, -1, 4}, fault(api.ErrRange, 2)},
		{"a task far below", []int{3, last, math.MinInt}, fault(api.ErrRange, 3)},
		{"the last of MaxList is 0", with(all, most-1, 0), fault(api.ErrRange, most)},
		{"a task just ahead", []int{4, 4}, fault(api.ErrTwice, 2)},
		{"a task ahead", []int{4, 2, 7, 2, 1}, fault(api.ErrTwice, 4)},
		{"the farthest task ahead", []int{last, 1, last}, fault(api.ErrTwice, 3)},
		{"the last of MaxList is the first", with(all, most-1, 1), fault(api.ErrTwice, most)},
		{"task 0 ahead of another one", []int{3, 0, 0}, fault(api.ErrRange, 2)},
		{"task 0 ahead of a later task twice", []int{3, 0, 3}, fault(api.ErrRange, 2)},
		{"a task twice ahead of a later task 0", []int{3, 3, 0}, fault(api.ErrTwice, 2)},
		{"a task twice ahead of another one", []int{5, 3, 3, 5}, fault(api.ErrTwice, 3)},
	}
}

// wrongComer is a line that is right, and a task that can't come to it.
type wrongComer struct {
	what string
	line []int
	task int
	want api.Fault
}

// wrongComers have lines of less than MaxList.
func wrongComers() []wrongComer {
	line := []int{3, last, 5}
	return []wrongComer{
		{"task 0, nobody waits", nil, 0, fault(api.ErrRange, -1)},
		{"task -1, nobody waits", []int{}, -1, fault(api.ErrRange, -1)},
		{"task 0, some wait", line, 0, fault(api.ErrRange, -1)},
		{"a task far below", line, math.MinInt, fault(api.ErrRange, -1)},
		{"the only one in it", []int{3}, 3, fault(api.ErrTwice, -1)},
		{"the first in it", line, 3, fault(api.ErrTwice, -1)},
		{"one between", line, last, fault(api.ErrTwice, -1)},
		{"the last in it", line, 5, fault(api.ErrTwice, -1)},
		{"the last of MaxList, less one", upTo(1, most-1), most - 1, fault(api.ErrTwice, -1)},
		{"task 0, MaxList wait, less one", upTo(1, most-1), 0, fault(api.ErrRange, -1)},
	}
}

// wrongCrowds have MaxList in line.
func wrongCrowds() []wrongComer {
	all := upTo(1, most)
	return []wrongComer{
		{"one beyond MaxList", all, most + 1, fault(api.ErrMuch, 0)},
		{"the farthest, beyond MaxList", all, last, fault(api.ErrMuch, 0)},
		{"the first in it, ahead of MaxList", all, 1, fault(api.ErrTwice, -1)},
		{"the last in it, ahead of MaxList", all, most, fault(api.ErrTwice, -1)},
		{"task 0, ahead of MaxList", all, 0, fault(api.ErrRange, -1)},
	}
}
