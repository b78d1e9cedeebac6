package ring

import "taskmill/api"

// Refill has tasks of the global queue wait in a ring of one of procs processors: the ring then, and the rest of global.
func Refill(q api.Ring, global []int, procs int) (api.Ring, []int, api.Fault) {
	if f := checkRefill(q, global, procs); f.Code != api.OK {
		return api.Ring{}, nil, f
	}
	n := min(len(global)/procs+1, len(global), half, room(q))
	return withLast(q, global[:n]), fresh(global[n:]), api.Fault{}
}

func checkRefill(q api.Ring, global []int, procs int) api.Fault {
	if f := Check(q); f.Code != api.OK {
		return f
	}
	if f := checkGlobal(q, global); f.Code != api.OK {
		return f
	}
	if procs < 1 || procs > api.MaxTask {
		return api.Fault{Code: api.ErrRange, At: -1}
	}
	return api.Fault{}
}

// checkGlobal goes through global twice: a form that is wrong anywhere is told ahead of any task that is there twice.
func checkGlobal(q api.Ring, global []int) api.Fault {
	if len(global) > api.MaxList {
		return api.Fault{Code: api.ErrMany, At: -1}
	}
	for i, task := range global {
		if task < 1 {
			return api.Fault{Code: api.ErrForm, At: i}
		}
	}
	seen := tasksOf(q)
	for i, task := range global {
		if seen.has(task) {
			return api.Fault{Code: api.ErrSize, At: i}
		}
		seen.add(task)
	}
	return api.Fault{}
}

// Steal has the second processor take tasks from the first: both rings then, and how many tasks went.
func Steal(from, to api.Ring, next bool) (api.Ring, api.Ring, int, api.Fault) {
	if f := checkSteal(from, to); f.Code != api.OK {
		return api.Ring{}, api.Ring{}, 0, f
	}
	if next && len(from.List) == 0 && from.Next != 0 && room(to) > 0 {
		return api.Ring{}, withLast(to, []int{from.Next}), 1, api.Fault{}
	}
	n := min((len(from.List)+1)/2, room(to))
	left := api.Ring{Next: from.Next, List: fresh(from.List[n:])}
	return left, withLast(to, from.List[:n]), n, api.Fault{}
}

func checkSteal(from, to api.Ring) api.Fault {
	for _, q := range []api.Ring{from, to} {
		if f := Check(q); f.Code != api.OK {
			return f
		}
	}
	theirs := tasksOf(to)
	for task := range tasksOf(from) {
		if theirs.has(task) {
			return api.Fault{Code: api.ErrSize}
		}
	}
	return api.Fault{}
}

// room is how many more tasks a checked ring's List can hold.
func room(q api.Ring) int {
	return api.MaxRing - len(q.List)
}

// withLast is a ring, in new memory, with more tasks at the end of its List.
func withLast(q api.Ring, more []int) api.Ring {
	return api.Ring{Next: q.Next, List: append(fresh(q.List), more...)}
}
