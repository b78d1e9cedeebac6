package sync

import (
	"slices"

	"taskmill/api"
)

// set is which tasks were seen.
type set map[int]struct{}

func (s set) has(task int) bool {
	_, seen := s[task]
	return seen
}

func (s set) add(task int) {
	s[task] = struct{}{}
}

// firstWrong answers what is wrong with the first one in a line of which check tells another code than OK.
func firstWrong[One any](line []One, check func(one One) int) api.Fault {
	for i, one := range line {
		if code := check(one); code != api.OK {
			return api.Fault{Code: code, At: i + 1}
		}
	}
	return api.Fault{}
}

// checkLine answers what is wrong with a line of tasks.
func checkLine(line []int) api.Fault {
	if len(line) > api.MaxList {
		return api.Fault{Code: api.ErrMany}
	}
	seen := make(set, len(line))
	return firstWrong(line, func(task int) int {
		switch {
		case task < 1:
			return api.ErrRange
		case seen.has(task):
			return api.ErrTwice
		}
		seen.add(task)
		return api.OK
	})
}

// checkComes answers what is wrong with a task that comes to a line.
func checkComes(line []int, task int) api.Fault {
	if task < 1 {
		return api.Fault{Code: api.ErrRange, At: -1}
	}
	if waits(line, task) {
		return api.Fault{Code: api.ErrTwice, At: -1}
	}
	if len(line) == api.MaxList {
		return api.Fault{Code: api.ErrMuch}
	}
	return api.Fault{}
}

// waits: is the task in the line?
func waits(line []int, task int) bool {
	return slices.Contains(line, task)
}

// fresh copies a line into memory of its own.
func fresh(line []int) []int {
	return append([]int{}, line...)
}
