package race

import "taskmill/api"

// access is a load or a store, and where it stands in its trace.
type access struct {
	at    int
	task  int
	store bool
}

// isAccess: is an op done with a cell?
func isAccess(op int) bool {
	return op == api.OpLoad || op == api.OpStore
}

// seen is what of a trace was gone through so far.
type seen struct {
	clocks   [][]int          // of each event of the trace
	accesses map[int][]access // of each cell, in the order of the trace
}

func newSeen(clocks [][]int) *seen {
	return &seen{clocks: clocks, accesses: map[int][]access{}}
}

// add goes through the next event: the places of those ahead that it races with, rising.
func (s *seen) add(at int, e api.Event) []int {
	if !isAccess(e.Op) {
		return nil
	}
	now := access{at: at, task: e.Task, store: e.Op == api.OpStore}
	var racing []int
	for _, ahead := range s.accesses[e.Obj] {
		if s.isRace(ahead, now) {
			racing = append(racing, ahead.at)
		}
	}
	s.accesses[e.Obj] = append(s.accesses[e.Obj], now)
	return racing
}

// isRace: do two accesses of a cell race? The later one never happens before the earlier one, so that one way is asked alone.
func (s *seen) isRace(earlier, later access) bool {
	if earlier.task == later.task || !earlier.store && !later.store {
		return false
	}
	place := earlier.task - 1
	return s.clocks[later.at][place] < s.clocks[earlier.at][place]
}
