package order_test

import (
	"slices"
	"testing"

	"taskmill/api"
)

// clocked is a trace, its pipes, and the clocks of its events.
type clocked struct {
	what  string
	trace string
	pipes []int
	want  [][]int
}

// P13.2: how many events of each task happen before each event, with itself, of its own task.
func TestClocks(t *testing.T) {
	list := []clocked{
		{"no events", "", nil, nil},
		{"no events, some pipes", "", []int{0, 100}, nil},
		{"one", "1 print", nil, [][]int{{1}}},
		{"of one task", "1 print; 1 print; 1 end", nil, [][]int{{1}, {2}, {3}}},
		{"of two tasks", "2 print; 1 print; 2 print", nil, [][]int{{0, 1}, {1, 0}, {0, 2}}},
		{"of the task 3 alone", "3 print; 3 print", nil, [][]int{{0, 0, 1}, {0, 0, 2}}},
		{"a task that begins and does nothing", "1 go 0 4; 1 end", nil, [][]int{{1, 0, 0, 0}, {2, 0, 0, 0}}},
		{"a task that begins itself", "2 go 0 2", nil, [][]int{{0, 1}}},
		{"the Value of others is no task", "1 print 0 9; 1 send 0 9; 1 store 0 9; 2 get 0 9", []int{1}, [][]int{{1, 0}, {2, 0}, {3, 0}, {2, 1}}},
		{"nor is Obj", "1 lock 20 1; 1 go 20 2", nil, [][]int{{1, 0}, {2, 0}}},
		{"some of a task, not all", "1 print; 1 go 0 2; 1 print; 1 print; 2 print", nil, [][]int{{1, 0}, {2, 0}, {3, 0}, {4, 0}, {2, 1}}},
		{"the more of two ways", "1 print; 1 count; 1 count 1; 2 wait 1; 3 wait 0; 3 count 2; 2 wait 2", nil,
			[][]int{{1, 0, 0}, {2, 0, 0}, {3, 0, 0}, {3, 1, 0}, {2, 0, 1}, {2, 0, 2}, {3, 2, 2}}},
		{"two that meet", "2 print; 1 send; 2 get; 1 print; 2 print", []int{0}, [][]int{{0, 1}, {1, 0}, {1, 2}, {2, 2}, {1, 3}}},
		{"and two that do not", "2 print; 1 send; 2 get; 1 print; 2 print", []int{1}, [][]int{{0, 1}, {1, 0}, {1, 2}, {2, 0}, {1, 3}}},
		{"who enters twice", "1 unlock 0 1; 2 lock 0 1; 1 unlock 0 1; 2 lock 0 1", nil, [][]int{{1, 0}, {1, 1}, {2, 0}, {2, 2}}},
	}
	for _, c := range list {
		same(t, c.what, clocksTold(t, events(c.trace), c.pipes), c.want)
	}
}

// P13.2: as many numbers as the greatest that is a Task, or the Value of an OpGo, wherever that stands.
func TestClocksAreAsLong(t *testing.T) {
	for _, last := range []int{1, 2, api.MaxTask - 1, api.MaxTask} {
		for place := range 3 {
			for _, e := range []api.Event{{Task: last, Op: api.OpPrint}, {Task: 1, Op: api.OpGo, Value: last}} {
				list := clocksTold(t, at(3, place, e), nil)
				same(t, "as many as events", len(list), 3)
				for _, c := range list {
					same(t, told("numbers with", e, "at", place), len(c), last)
				}
			}
		}
	}
}

// P13.2: as much as may be: 2000 events by MaxTask tasks, of which the last 1000 wait for what the first 1000 counted.
func TestClocksOfMany(t *testing.T) {
	const half = mostEvents / 2
	var trace []api.Event
	for at := range mostEvents {
		trace = append(trace, api.Event{Task: 1 + at%api.MaxTask, Op: []int{api.OpCount, api.OpWait}[at/half]})
	}
	list := clocksTold(t, trace, slices.Repeat([]int{mostHolds}, mostPipes))
	for k, c := range list {
		want := make([]int, api.MaxTask)
		for i := range k + 1 {
			if trace[i].Task == trace[k].Task || k >= half && i < half {
				want[trace[i].Task-1]++
			}
		}
		if !slices.Equal(c, want) {
			t.Fatalf("event %d: got %v, want %v", k, c, want)
		}
	}
	same(t, "the last count happens before the last wait", happens(t, trace, nil, half-1, mostEvents-1), true)
	same(t, "the first wait does not", happens(t, trace, nil, half, mostEvents-1), false)
}
