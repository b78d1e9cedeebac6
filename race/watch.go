package race

import "taskmill/api"

// maxLock is the greatest number that a lock has in a checked trace.
const maxLock = 20

// hold is a lock in the hands of a task.
type hold struct {
	task, lock int
}

// guard is a lock that is held at accesses of a cell.
type guard struct {
	cell, lock int
}

// watch counts who holds what, and what is held at accesses.
type watch struct {
	holds    map[hold]int  // how many times a task has to leave a lock until it no longer holds it
	accesses map[int]int   // how many there are of a cell
	held     map[guard]int // at how many of them
	cells    int           // one more than the greatest cell that has an access
}

func newWatch() *watch {
	return &watch{holds: map[hold]int{}, accesses: map[int]int{}, held: map[guard]int{}}
}

// add goes through the next event of a trace.
func (w *watch) add(e api.Event) {
	h := hold{task: e.Task, lock: e.Obj}
	switch {
	case e.Op == api.OpLock:
		w.holds[h]++
	case e.Op == api.OpUnlock:
		w.holds[h] = max(0, w.holds[h]-1)
	case isAccess(e.Op):
		w.access(e.Task, e.Obj)
	}
}

// access counts an access of a cell for each lock that its task holds.
func (w *watch) access(task, cell int) {
	w.cells = max(w.cells, cell+1)
	w.accesses[cell]++
	for lock := range maxLock + 1 {
		if w.holds[hold{task: task, lock: lock}] > 0 {
			w.held[guard{cell: cell, lock: lock}]++
		}
	}
}

// guards answers the locks that were held at all accesses of a cell: none, where there is no access.
func (w *watch) guards(cell int) []int {
	var locks []int
	for lock := range maxLock + 1 {
		times := w.held[guard{cell: cell, lock: lock}]
		if times > 0 && times == w.accesses[cell] {
			locks = append(locks, lock)
		}
	}
	return locks
}
