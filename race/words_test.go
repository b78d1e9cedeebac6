package race_test

import (
	"slices"
	"testing"

	"taskmill/api"
	"taskmill/order"
)

// What stands here tells once more what the chapter's words say, of each pair and each access by itself.

// isAccess: is an event OpLoad or OpStore?
func isAccess(e api.Event) bool {
	return slices.Contains([]int{api.OpLoad, api.OpStore}, e.Op)
}

// before tells of each event of a right trace, and each other one, whether it happens before that, as package order tells it.
func before(t *testing.T, trace []api.Event, pipes []int) [][]bool {
	t.Helper()
	table := make([][]bool, len(trace))
	for i := range trace {
		for k := range trace {
			is, f := order.Before(trace, pipes, i, k)
			if f != none {
				t.Fatalf("%d %d: %v", i, k, f)
			}
			table[i] = append(table[i], is)
		}
	}
	return table
}

// racesByTheWords are all pairs that race, by the later ones, and then by the earlier ones.
func racesByTheWords(trace []api.Event, before [][]bool) [][2]int {
	var pairs [][2]int
	for later, two := range trace {
		for earlier, one := range trace[:later] {
			switch {
			case !isAccess(one), !isAccess(two), one.Obj != two.Obj, one.Task == two.Task:
			case one.Op != api.OpStore && two.Op != api.OpStore:
			case before[earlier][later], before[later][earlier]:
			default:
				pairs = append(pairs, [2]int{earlier, later})
			}
		}
	}
	return pairs
}

// heldByTheWords are the locks that the task of an event holds there.
func heldByTheWords(trace []api.Event, at int) []int {
	var locks []int
	for lock := range 21 {
		holds := 0
		for _, e := range trace[:at] {
			if e.Task != trace[at].Task || e.Obj != lock {
				continue
			}
			if e.Op == api.OpLock {
				holds++
			}
			if e.Op == api.OpUnlock && holds > 0 {
				holds--
			}
		}
		if holds > 0 {
			locks = append(locks, lock)
		}
	}
	return locks
}

// guardsByTheWords are the locks of each cell that are held at each of its accesses.
func guardsByTheWords(trace []api.Event) [][]int {
	var list [][]int
	met := map[int]bool{}
	for at, e := range trace {
		if !isAccess(e) {
			continue
		}
		for len(list) <= e.Obj {
			list = append(list, nil)
		}
		held := heldByTheWords(trace, at)
		if met[e.Obj] {
			held = slices.DeleteFunc(held, func(lock int) bool { return !slices.Contains(list[e.Obj], lock) })
		}
		list[e.Obj], met[e.Obj] = held, true
	}
	return list
}
