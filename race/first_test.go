package race_test

import (
	"testing"

	"taskmill/api"
)

// P14.2: the later event of the first pair, in the order of the trace.
func TestFirst(t *testing.T) {
	for _, c := range []struct {
		what  string
		trace string
		want  int // -1: none
	}{
		{"no events", "", -1},
		{"no access", "1 print; 2 lock; 3 end", -1},
		{"one access", "1 store", -1},
		{"of one task", "1 store; 1 load; 1 store", -1},
		{"two loads", "1 load; 2 load", -1},
		{"two cells", "1 store 0; 2 store 1", -1},
		{"at 1", "1 store; 2 store", 1},
		{"the later one, not the earlier one", "3 print; 1 store; 3 print; 2 store; 3 print", 3},
		{"the first of several that race with one", "1 store; 2 load; 3 load", 1},
		{"the one that is first, though the other pair begins first", "1 store 0; 1 store 1; 2 store 1; 2 store 0", 2},
		{"the one that is first, though the other cell is less", "1 store 5; 2 store 5; 3 store 0; 4 store 0", 1},
		{"behind accesses that do not race", "1 load; 2 load; 1 load; 3 load; 2 store", 4},
		{"with one far ahead alone", "1 store; 1 count; 2 wait; 2 store; 1 print; 3 store", 5},
		{"with the one right ahead alone", "1 store; 1 go 0 3; 2 print; 2 load 1; 1 store; 3 store", 5},
		{"ordered by a lock", "1 lock 0 1; 1 store; 1 unlock 0 1; 2 lock 0 1; 2 store; 2 unlock 0 1", -1},
		{"one that forgets the lock", "1 lock 0 1; 1 store; 1 unlock 0 1; 2 lock 0 1; 2 store; 2 unlock 0 1; 3 store", 6},
	} {
		askFirst(t, c.what, events(c.trace), nil, c.want)
	}
}

// P14.2: First has no ErrMuch, however many races there are.
func TestFirstOfTooMany(t *testing.T) {
	askFirst(t, "MaxList and one more", crowd(50, 101), nil, 50)
	askFirst(t, "as many as there may be", crowd(mostEvents/2, mostEvents/2), nil, mostEvents/2)
	askFirst(t, "only the last one", crowd(mostEvents-1, 1), nil, mostEvents-1)
	var all []api.Event
	for at := range mostEvents {
		all = append(all, api.Event{Task: 1 + at%api.MaxTask, Op: api.OpStore})
	}
	askFirst(t, "all with all", all, nil, 1)
}
