package race_test

import (
	"testing"

	"taskmill/api"
)

// guarded is a trace, and the locks of its cells.
type guarded struct {
	what  string
	trace string
	want  [][]int
}

func askGuards(t *testing.T, list []guarded) {
	t.Helper()
	for _, g := range list {
		got := guardsTold(t, events(g.trace), []int{1})
		same(t, g.what+": as many lists", len(got), len(g.want))
		same(t, g.what, got, g.want)
	}
}

// cells are so many lists, of which the last one alone has locks.
func cells(n int, locks ...int) [][]int {
	list := make([][]int, n)
	list[n-1] = locks
	return list
}

// P14.3: from 0 up to the greatest cell that has an access.
func TestGuardsAreAsMany(t *testing.T) {
	askGuards(t, []guarded{
		{"no events", "", nil},
		{"no access", "1 print; 1 lock 0 1; 1 unlock 0 1; 2 end", nil},
		{"other events have things, too", "1 lock 9; 1 count 9; 1 print 9; 1 panic 20; 1 go 20 2", nil},
		{"cell 0", "1 load 0", cells(1)},
		{"cell 1", "1 load 1", cells(2)},
		{"cell 20", "1 store 20", cells(21)},
		{"cell 20, held", "1 lock 20; 1 store 20", cells(21, 20)},
		{"the greatest is first", "1 load 3; 1 load 0", cells(4)},
		{"the greatest is last", "1 load 0; 1 load 3", cells(4)},
		{"a greater lock, and a greater pipe's thing", "1 lock 9; 1 store 2; 1 unlock 9", [][]int{nil, nil, {9}}},
		{"cells without an access between", "1 lock 4; 1 store 0; 1 load 2", [][]int{{4}, nil, {4}}},
	})
}

// P14.3: the locks that are held at each access, rising.
func TestGuards(t *testing.T) {
	askGuards(t, []guarded{
		{"held", "1 lock 0 1; 1 store; 1 unlock 0 1", cells(1, 0)},
		{"held at a load", "1 lock 0 1; 1 load; 1 unlock 0 1", cells(1, 0)},
		{"not yet", "1 store; 1 lock 0 1", cells(1)},
		{"no longer", "1 lock 0 1; 1 unlock 0 1; 1 store", cells(1)},
		{"by another task", "2 lock 0 1; 1 store", cells(1)},
		{"by both tasks", "1 lock 0 1; 1 store; 1 unlock 0 1; 2 lock 0 1; 2 store; 2 unlock 0 1", cells(1, 0)},
		{"by one of both tasks", "1 lock 0 1; 1 store; 1 unlock 0 1; 2 store", cells(1)},
		{"by the other one of both tasks", "2 store; 1 lock 0 1; 1 store; 1 unlock 0 1", cells(1)},
		{"at all accesses", "1 lock 3; 1 load; 1 store; 1 load; 1 unlock 3", cells(1, 3)},
		{"at all but the first", "1 load; 1 lock 3; 1 load; 1 store; 1 unlock 3", cells(1)},
		{"at all but a middle one", "1 lock 3; 1 load; 1 unlock 3; 1 load; 1 lock 3; 1 store; 1 unlock 3", cells(1)},
		{"at all but the last", "1 lock 3; 1 load; 1 store; 1 unlock 3; 1 load", cells(1)},
		{"at a load, and not at another one", "1 lock 3; 1 load; 2 load", cells(1)},
		{"a lock that is less last", "1 lock 9; 1 lock 20; 1 lock 0; 1 lock 4; 1 store", cells(1, 0, 4, 9, 20)},
		{"what both have", "1 lock 5; 1 lock 2; 1 lock 8; 1 store; 2 lock 8; 2 lock 1; 2 lock 2; 2 store", cells(1, 2, 8)},
		{"what both have: nothing", "1 lock 0; 1 store; 2 lock 1; 2 store", cells(1)},
		{"a lock more at the second", "1 lock 0; 1 store; 1 lock 1; 1 store", cells(1, 0)},
		{"left, and taken again", "1 lock 0; 1 store; 1 unlock 0; 1 lock 0; 1 store", cells(1, 0)},
		{"others' lock and unlock between", "1 lock 0; 2 lock 1; 1 store; 2 unlock 1; 2 lock 0; 2 store 1", [][]int{{0}, {0}}},
		{"each cell its own", "1 lock 0; 1 store 0; 1 lock 1; 1 store 1; 1 unlock 0; 1 store 2; 1 unlock 1; 1 store 3", [][]int{{0}, {0, 1}, {1}, {}}},
		{"races do not matter", "1 lock 0 0; 2 lock 0 0; 1 store; 2 store", cells(1, 0)},
		{"the last task", "64 lock 7; 64 store; 63 lock 7; 63 store", cells(1, 7)},
		{"another thing of the same number", "1 count 0; 1 wait 0; 1 send 0; 1 store 0", cells(1)},
	})
}

// P14.3: more locks than unlocks have come; an unlock where none is held counts as nothing.
func TestGuardsCount(t *testing.T) {
	askGuards(t, []guarded{
		{"taken twice, left once", "1 lock 0; 1 lock 0; 1 unlock 0; 1 store", cells(1, 0)},
		{"taken twice, left twice", "1 lock 0; 1 lock 0; 1 unlock 0; 1 unlock 0; 1 store", cells(1)},
		{"taken three times, left twice", "1 lock 0; 1 lock 0; 1 unlock 0; 1 lock 0; 1 unlock 0; 1 store", cells(1, 0)},
		{"left where none is held", "1 unlock 0; 1 store", cells(1)},
		{"left where none is held, and taken", "1 unlock 0; 1 lock 0; 1 store", cells(1, 0)},
		{"left twice where none is held, and taken", "1 unlock 0; 1 unlock 0; 1 lock 0; 1 store", cells(1, 0)},
		{"taken, left twice, and taken", "1 lock 0; 1 unlock 0; 1 unlock 0; 1 lock 0; 1 store", cells(1, 0)},
		{"left where none is held, taken and left", "1 unlock 0; 1 lock 0; 1 unlock 0; 1 store", cells(1)},
		{"another lock is left", "1 lock 0; 1 unlock 1; 1 store", cells(1, 0)},
		{"another task leaves it", "1 lock 0 1; 2 unlock 0 1; 1 store", cells(1, 0)},
		{"another task leaves it, and takes it: both hold it", "1 lock 0 1; 2 unlock 0 1; 2 lock 0 1; 2 store; 1 store", cells(1, 0)},
		{"another task leaves it for one who takes it later", "2 unlock 0; 1 lock 0; 1 store", cells(1, 0)},
		{"who leaves what another one took does not hold it", "1 lock 0 1; 2 unlock 0 1; 2 store", cells(1)},
		{"Values do not matter: taken to write, left to read", "1 lock 0 1; 1 unlock 0 0; 1 store", cells(1)},
		{"Values do not matter: taken to read, left to write", "1 lock 0 0; 1 unlock 0 1; 1 store", cells(1)},
		{"Values do not matter: taken to read and to write, left once", "1 lock 0 0; 1 lock 0 1; 1 unlock 0 5; 1 store", cells(1, 0)},
		{"Values do not matter: -3", "1 lock 0 -3; 1 store 0 9; 2 lock 0 7; 2 load 0 8", cells(1, 0)},
	})
}

// P14.3: all locks at all cells, by all tasks.
func TestGuardsOfAll(t *testing.T) {
	var trace []api.Event
	for _, task := range []int{1, 2, api.MaxTask} {
		for lock := range mostObj + 1 {
			trace = append(trace, api.Event{Task: task, Op: api.OpLock, Obj: mostObj - lock})
		}
		for cell := range mostObj + 1 {
			trace = append(trace, api.Event{Task: task, Op: api.OpStore, Obj: cell})
		}
	}
	want := make([][]int, mostObj+1)
	for cell := range want {
		for lock := range mostObj + 1 {
			want[cell] = append(want[cell], lock)
		}
	}
	same(t, "all", guardsTold(t, trace, nil), want)
}

// P14.3: Guards has neither ErrMuch nor ErrNone.
func TestGuardsOfManyRaces(t *testing.T) {
	same(t, "too many races for All", guardsTold(t, crowd(mostEvents/2, mostEvents/2), nil), cells(8))
	same(t, "none for First", guardsTold(t, events("1 store 1"), nil), cells(2))
}
