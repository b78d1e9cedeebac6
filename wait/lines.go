package wait

import (
	"cmp"
	"slices"

	"taskmill/api"
)

// set is which tasks were seen.
type set map[int]struct{}

func (s set) has(task int) bool {
	_, seen := s[task]
	return seen
}

func (s set) add(task int) {
	s[task] = struct{}{}
}

// place is where the line of at stands, or would stand, and whether it is there.
func place(l []api.Line, at int) (int, bool) {
	return slices.BinarySearchFunc(l, at, func(line api.Line, at int) int { return cmp.Compare(line.At, at) })
}

// lineOf is the place of the line in which a task waits; below 0, if it waits in none.
func lineOf(l []api.Line, task int) int {
	return slices.IndexFunc(l, func(line api.Line) bool { return slices.Contains(line.Tasks, task) })
}

func countTasks(l []api.Line) int {
	n := 0
	for _, line := range l {
		n += len(line.Tasks)
	}
	return n
}

// changed is the lines, in new memory, with what change makes of the tasks of at: of none, if there is no such line.
// A line that is left without tasks goes. (What change answers is copied, so it may be a part of what it was given.)
func changed(l []api.Line, at int, change func(tasks []int) []int) []api.Line {
	var tasks []int
	i, there := place(l, at)
	ahead, behind := l[:i], l[i:]
	if there {
		tasks, behind = l[i].Tasks, l[i+1:]
	}
	then := appendFresh(make([]api.Line, 0, len(l)+1), ahead)
	if tasks = change(tasks); len(tasks) > 0 {
		then = append(then, api.Line{At: at, Tasks: fresh(tasks)})
	}
	return appendFresh(then, behind)
}

// taken takes the first n tasks of the line of at, or as many as there are: the lines then, and those tasks.
func taken(l []api.Line, at, n int) ([]api.Line, []int) {
	var first []int
	left := changed(l, at, func(tasks []int) []int {
		many := max(0, min(n, len(tasks)))
		first = fresh(tasks[:many])
		return tasks[many:]
	})
	return left, first
}

// appendFresh appends lines whose tasks are copied: they, too, are to be new memory.
func appendFresh(then, lines []api.Line) []api.Line {
	for _, line := range lines {
		then = append(then, api.Line{At: line.At, Tasks: fresh(line.Tasks)})
	}
	return then
}

// fresh copies a list into memory of its own.
func fresh(list []int) []int {
	return append([]int{}, list...)
}
