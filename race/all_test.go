package race_test

import (
	"slices"
	"testing"

	"taskmill/api"
	"taskmill/race"
)

// P14.1, P14.2: what an access is, and which two of them may race.
func TestAccesses(t *testing.T) {
	askRaces(t, []raced{
		{"no events", "", nil, ""},
		{"no events, some pipes", "", []int{0, 100}, ""},
		{"one load", "1 load", nil, ""},
		{"one store", "1 store", nil, ""},
		{"two stores", "1 store; 2 store", nil, "0-1"},
		{"a load, and a store", "1 load; 2 store", nil, "0-1"},
		{"a store, and a load", "1 store; 2 load", nil, "0-1"},
		{"two loads", "1 load; 2 load", nil, ""},
		{"two stores by one task", "1 store; 1 store", nil, ""},
		{"a load and stores by one task", "2 load; 2 store; 2 load; 2 store", nil, ""},
		{"two cells", "1 store 0; 2 store 1", nil, ""},
		{"the first cell and the last", "1 store 0; 2 store 20", nil, ""},
		{"the last cell", "1 store 20; 2 store 20", nil, "0-1"},
		{"the last cell and the one ahead", "1 store 20; 2 store 19", nil, ""},
		{"the last task", "63 store; 64 store", nil, "0-1"},
		{"the last task first", "64 store; 1 load", nil, "0-1"},
		{"Values do not matter", "1 store 0 5; 2 store 0 5; 3 load 0 7", nil, "0-1 0-2 1-2"},
		{"other events between", "1 store; 3 print; 4 panic; 2 store; 1 end", nil, "0-3"},
	})
}

// P14.1: events of other ops are no accesses, with whatever thing. (The Value 9 is a task that does nothing.)
func TestOtherEvents(t *testing.T) {
	for name, op := range opNames() {
		if op == api.OpLoad || op == api.OpStore {
			continue
		}
		other := name + " 0 9"
		askRaces(t, []raced{
			{other + ": two of them", "1 " + other + "; 2 " + other, []int{1}, ""},
			{other + " behind a store", "1 store; 2 " + other, []int{1}, ""},
			{other + " ahead of a store", "1 " + other + "; 2 store", []int{1}, ""},
			{other + " beside a load", "1 " + other + "; 2 load; 3 " + other, []int{1}, ""},
		})
	}
}

// P14.1: the earlier event first; by the later ones, and then by the earlier ones, rising.
func TestAllInOrder(t *testing.T) {
	askRaces(t, []raced{
		{"three stores", "1 store; 2 store; 3 store", nil, "0-1 0-2 1-2"},
		{"four stores", "1 store; 2 store; 3 store; 4 store", nil, "0-1 0-2 1-2 0-3 1-3 2-3"},
		{"of falling tasks", "4 store; 3 store; 2 store; 1 store", nil, "0-1 0-2 1-2 0-3 1-3 2-3"},
		{"loads between", "1 load; 2 load; 3 store; 4 load", nil, "0-2 1-2 2-3"},
		{"two tasks in turns", "1 store; 2 store; 1 store; 2 store", nil, "0-1 1-2 0-3 2-3"},
		{"two cells in turns", "1 store 0; 1 store 1; 2 store 1; 2 store 0", nil, "1-2 0-3"},
		{"two cells, the greater one first", "1 store 9; 1 store 2; 2 store 2; 2 store 9; 3 load 2; 3 load 9", nil, "1-2 0-3 1-4 2-4 0-5 3-5"},
		{"by the later ones, not by cells", "1 store 5; 2 store 5; 3 store 0; 4 store 0", nil, "0-1 2-3"},
		{"each load by itself", "1 store; 2 load; 2 load; 3 load", nil, "0-1 0-2 0-3"},
		{"the shared test's", "1 store; 2 store; 2 load; 1 load", nil, "0-1 0-2 1-3"},
		{"ten events, at two digits", "1 print; 1 print; 1 print; 1 print; 1 print; 1 print; 1 print; 1 print; 1 store; 2 print; 2 store; 3 store", nil, "8-10 8-11 10-11"},
	})
}

// P14.1: none where one happens before the other by each kind of chapter 13's edges, and some where the edge is not there.
func TestOrderedBySomething(t *testing.T) {
	askRaces(t, []raced{
		{"go", "1 store; 1 go 0 2; 2 store", nil, ""},
		{"go, of another task", "1 store; 1 go 0 3; 2 store", nil, "0-2"},
		{"go, ahead of the store", "1 go 0 2; 1 store; 2 store", nil, "1-2"},
		{"go, the task has gone on", "1 store; 2 store; 1 go 0 2; 2 load", nil, "0-1"},
		{"send, get", "1 store; 1 send; 2 get; 2 store", []int{1}, ""},
		{"send, get, of a pipe that holds 0", "1 store; 1 send; 2 get; 2 store", []int{0}, ""},
		{"the chapter 13's example", "1 store 0 5; 1 send 0 1; 2 get 0 1; 2 load 0 5", []int{2}, ""},
		{"get ahead of the send", "2 get; 1 store; 1 send; 2 load", []int{1}, "1-3"},
		{"another pipe", "1 store; 1 send 0; 2 get 1; 2 store", []int{1, 1}, "0-3"},
		{"the get of another send", "1 store; 1 send; 2 send; 3 get; 4 get; 4 store", []int{2}, "0-5"},
		{"room: the get 0 and the send 1 of a pipe that holds 1", "1 send; 2 store; 2 get; 3 send; 3 store", []int{1}, ""},
		{"no such room in a pipe that holds 2", "1 send; 2 store; 2 get; 3 send; 3 store", []int{2}, "1-4"},
		{"room: the get 0 and the send 2 of a pipe that holds 2", "1 send; 1 send; 2 store; 2 get; 3 send; 3 store", []int{2}, ""},
		{"meeting at a pipe that holds 0", "2 store; 1 send; 2 get; 1 load", []int{0}, ""},
		{"no such meeting at a pipe that holds 1", "2 store; 1 send; 2 get; 1 load", []int{1}, "0-3"},
		{"shut, and a get that finds it closed", "1 store; 1 shut; 2 get; 2 load", []int{1}, ""},
		{"a get that finds a value", "3 send; 1 store; 1 shut; 2 get; 2 load", []int{1}, "1-4"},
		{"the last shut alone", "1 store; 1 shut; 3 shut; 2 get; 2 load", []int{1}, "0-4"},
		{"unlock, lock: write, write", "1 store; 1 unlock 0 1; 2 lock 0 1; 2 store", nil, ""},
		{"unlock, lock: write, read", "1 store; 1 unlock 0 1; 2 lock 0 0; 2 store", nil, ""},
		{"unlock, lock: read, write", "1 load; 1 unlock 0 0; 2 lock 0 1; 2 store", nil, ""},
		{"unlock, lock: read, read", "1 store; 1 unlock 0 0; 2 lock 0 0; 2 store", nil, "0-3"},
		{"two locks", "1 store; 1 unlock 0 1; 2 lock 1 1; 2 store", nil, "0-3"},
		{"count, wait", "1 store; 1 count 0 -1; 2 wait; 2 load", nil, ""},
		{"two groups", "1 store; 1 count 0 -1; 2 wait 1; 2 load", nil, "0-3"},
		{"wait, count", "1 store; 1 wait; 2 count; 2 load", nil, "0-3"},
	})
}

// P14.1: none where several edges lead from one to the other, one after the other.
func TestOrderedBySeveral(t *testing.T) {
	askRaces(t, []raced{
		{"by a third one and two pipes", "1 store; 1 send 0; 3 get 0; 3 send 1; 2 get 1; 2 store", []int{1, 1}, ""},
		{"the third one sends first", "1 store; 3 send 1; 1 send 0; 3 get 0; 2 get 1; 2 store", []int{1, 1}, "0-5"},
		{"go, send, lock, count", "1 store; 1 go 0 2; 2 send; 3 get; 3 unlock 0 1; 4 lock 0 0; 4 count; 5 wait; 5 store", []int{1}, ""},
		{"one of them is missing", "1 store; 1 go 0 2; 2 send; 3 get; 3 unlock 0 0; 4 lock 0 0; 4 count; 5 wait; 5 store", []int{1}, "0-8"},
		{"shut, and a meeting", "1 store; 1 shut 1; 2 get 1; 3 send 0; 2 get 0; 3 go 0 4; 4 load", []int{0, 1}, ""},
		{"a reader, a writer, a reader", "1 load; 1 unlock 0 0; 2 lock 0 1; 2 unlock 0 1; 3 lock 0 0; 3 store", nil, ""},
		{"some of a task's, not all", "1 store; 1 send; 1 store; 2 get; 2 store", []int{1}, "2-4"},
		{"some of two tasks', not all", "1 store; 1 count; 2 store; 2 count; 1 store; 2 load; 3 wait; 3 store", nil, "0-2 2-4 0-5 4-5 4-7 5-7"},
	})
}

// crowd are so many stores by task 1, and so many by task 2, of one cell: each of the first races with each of the second.
func crowd(one, two int) []api.Event {
	return append(many(one, "1 store 7"), many(two, "2 store 7")...)
}

// P14.1: ErrMuch at 0: more than MaxList races.
func TestAllTooMuch(t *testing.T) {
	more := events("3 store 8; 4 load 8")
	less := slices.Clone(crowd(50, 100))
	less[149].Op = api.OpPrint
	for _, c := range []struct {
		what  string
		trace []api.Event
		want  int // races; -1: too many
	}{
		{"just MaxList", crowd(50, 100), api.MaxList},
		{"just MaxList, the other way round", crowd(100, 50), api.MaxList},
		{"just MaxList, and others that do not race", append(crowd(50, 100), many(1850, "1 store 20")...), api.MaxList},
		{"fewer", less, api.MaxList - 50},
		{"one more than fewer", append(slices.Clone(less), more...), api.MaxList - 49},
		{"one more, behind", append(crowd(50, 100), more...), -1},
		{"one more, ahead", append(slices.Clone(more), crowd(50, 100)...), -1},
		{"one more row", crowd(50, 101), -1},
		{"5002 by other numbers", crowd(61, 82), -1},
		{"as many as there may be", crowd(mostEvents/2, mostEvents/2), -1},
	} {
		pairs, f := race.All(c.trace, nil)
		if c.want < 0 {
			same(t, c.what, told(len(pairs), f), told(0, fault(api.ErrMuch, 0)))
		} else {
			same(t, c.what, told(len(pairs), f), told(c.want, none))
		}
	}
}

// P14.1: all of MaxList pairs, in their order.
func TestAllOfMaxList(t *testing.T) {
	pairs, f := race.All(crowd(50, 100), nil)
	same(t, "fault", f, none)
	var want [][2]int
	for later := range 100 {
		for earlier := range 50 {
			want = append(want, [2]int{earlier, 50 + later})
		}
	}
	same(t, "all", slices.Equal(pairs, want), true)
}

// P14.1, P14.2: 2000 events by all tasks, of which none race, as a lock guards the cell.
func TestNoneOfMany(t *testing.T) {
	var trace []api.Event
	for at := range mostEvents / 4 {
		task := 1 + at%api.MaxTask
		for _, op := range []int{api.OpLock, api.OpLoad, api.OpStore, api.OpUnlock} {
			trace = append(trace, api.Event{Task: task, Op: op, Obj: mostObj, Value: 1})
		}
	}
	same(t, "2000 events", len(trace), mostEvents)
	same(t, "all", allTold(t, trace, nil), "")
	askFirst(t, "of many", trace, nil, -1)
	want := make([][]int, mostObj+1)
	want[mostObj] = []int{mostObj}
	same(t, "guards", guardsTold(t, trace, nil), want)
}
