package lock

import (
	"slices"

	"taskmill/api"
)

// set is which tasks were seen.
type set map[int]struct{}

func (s set) has(task int) bool {
	_, seen := s[task]
	return seen
}

func (s set) add(task int) {
	s[task] = struct{}{}
}

// isOf is the function that tells a task from others who wait.
func isOf(task int) func(one api.Want) bool {
	return func(one api.Want) bool { return one.Task == task }
}

// waits: does the task wait for the lock?
func waits(l api.Lock, task int) bool {
	return slices.ContainsFunc(l.Line, isOf(task))
}

// admits: is there somebody who waits, and whom the lock lets in?
func admits(l api.Lock) bool {
	return len(l.Line) > 0 && !l.Writer && (!l.Line[0].Write || l.Readers == 0)
}

// admitted lets in those who wait, the first one first, as long as it can: the lock then, and those tasks.
// The lock's memory is the call's own.
func admitted(l api.Lock) (api.Lock, []int) {
	var tasks []int
	for admits(l) {
		one := l.Line[0]
		l.Line = l.Line[1:]
		if one.Write {
			l.Writer = true
		} else {
			l.Readers++
		}
		tasks = append(tasks, one.Task)
	}
	return l, tasks
}

// fresh copies a lock into memory of its own.
func fresh(l api.Lock) api.Lock {
	l.Line = append([]api.Want{}, l.Line...)
	return l
}
