package sync

import (
	"slices"

	"taskmill/api"
)

// Acquire has a task get n of what is free, or wait until it can, or, with try, go without if it can't:
// the semaphore then, and whether it got n.
func Acquire(s api.Sema, task, n int, try bool) (api.Sema, bool, api.Fault) {
	if f := checkAcquire(s, task, n); f.Code != api.OK {
		return api.Sema{}, false, f
	}
	then := freshSema(s)
	then.Line = append(then.Line, api.Want{Task: task, N: n})
	then, tasks := given(then)
	got := waits(tasks, task)
	if try && !got {
		then.Line = slices.DeleteFunc(then.Line, isOf(task))
	}
	return then, got, api.Fault{}
}

func checkAcquire(s api.Sema, task, n int) api.Fault {
	if f := checkSema(s); f.Code != api.OK {
		return f
	}
	if task < 1 || n < 1 || n > api.MaxNum {
		return api.Fault{Code: api.ErrRange, At: -1}
	}
	if slices.ContainsFunc(s.Line, isOf(task)) {
		return api.Fault{Code: api.ErrTwice, At: -1}
	}
	if len(s.Line) == api.MaxList {
		return api.Fault{Code: api.ErrMuch}
	}
	return api.Fault{}
}

// Release has n more be free: the semaphore then, and who got what it waited for.
func Release(s api.Sema, n int) (api.Sema, []int, api.Fault) {
	if f := checkRelease(s, n); f.Code != api.OK {
		return api.Sema{}, nil, f
	}
	then := freshSema(s)
	then.Free += n
	then, tasks := given(then)
	return then, tasks, api.Fault{}
}

func checkRelease(s api.Sema, n int) api.Fault {
	if f := checkSema(s); f.Code != api.OK {
		return f
	}
	if n < 0 || n > api.MaxNum {
		return api.Fault{Code: api.ErrRange, At: -1}
	}
	if s.Free+n > api.MaxNum {
		return api.Fault{Code: api.ErrMuch}
	}
	return api.Fault{}
}

func checkSema(s api.Sema) api.Fault {
	if len(s.Line) > api.MaxList {
		return api.Fault{Code: api.ErrMany}
	}
	if s.Free < 0 || s.Free > api.MaxNum {
		return api.Fault{Code: api.ErrRange}
	}
	if gives(s) {
		return api.Fault{Code: api.ErrForm}
	}
	return checkWants(s.Line)
}

// checkWants answers what is wrong with those who wait, one after the other.
func checkWants(line []api.Want) api.Fault {
	seen := make(set, len(line))
	return firstWrong(line, func(one api.Want) int {
		switch {
		case one.Task < 1 || one.N < 1 || one.N > api.MaxNum:
			return api.ErrRange
		case seen.has(one.Task):
			return api.ErrTwice
		case one.Write:
			return api.ErrForm
		}
		seen.add(one.Task)
		return api.OK
	})
}

// gives: does somebody wait first who wants no more than is free?
func gives(s api.Sema) bool {
	return len(s.Line) > 0 && s.Line[0].N <= s.Free
}

// given gives those who wait what they want, the first one first, as long as it can: the semaphore then, and those tasks.
// The semaphore's memory is the call's own.
func given(s api.Sema) (api.Sema, []int) {
	var tasks []int
	for gives(s) {
		one := s.Line[0]
		s.Line = s.Line[1:]
		s.Free -= one.N
		tasks = append(tasks, one.Task)
	}
	return s, tasks
}

// isOf is the function that tells a task from others who wait.
func isOf(task int) func(one api.Want) bool {
	return func(one api.Want) bool { return one.Task == task }
}

// freshSema copies a semaphore into memory of its own.
func freshSema(s api.Sema) api.Sema {
	s.Line = append([]api.Want{}, s.Line...)
	return s
}
