package cell_test

import (
	"math"
	"testing"

	"taskmill/api"
	"taskmill/cell"
)

// P1.3: the memory then, and what each task's ops have told.
func TestMix(t *testing.T) {
	two := [][]api.Op{{add(0, 1)}, {load(0), load(0)}}
	raise := [][]api.Op{{load(0), store(0, 1)}, {load(0), store(0, 2)}}
	rows := []struct {
		what  string
		mem   []int
		tasks [][]api.Op
		picks []int
		then  []int
		told  [][]int
	}{
		{"nothing", nil, nil, nil, nil, nil},
		{"no tasks", []int{4}, nil, nil, []int{4}, nil},
		{"no picks", []int{4}, two, nil, []int{4}, [][]int{nil, nil}},
		{"in between", []int{0}, two, []int{1, 0, 1}, []int{1}, [][]int{{1}, {0, 1}}},
		{"one that has done all does nothing", []int{0}, two, []int{0, 0, 0, 1, 1, 1, 0, 1}, []int{1}, [][]int{{1}, {1, 1}}},
		{"a task without ops", []int{7}, [][]api.Op{nil, {swap(0, 8)}, {}}, []int{0, 2, 1, 0}, []int{8}, [][]int{nil, {7}, nil}},
		{"not all are done", []int{0}, raise, []int{1, 0}, []int{0}, [][]int{{0}, {0}}},
		{"the last store stays", []int{0}, raise, []int{1, 0, 1, 0}, []int{1}, [][]int{{0, 0}, {0, 0}}},
		{"the other order", []int{0}, raise, []int{0, 0, 1, 1}, []int{2}, [][]int{{0, 0}, {1, 0}}},
		{"one Cas wins", []int{0}, [][]api.Op{{cas(0, 0, 1)}, {cas(0, 0, 2)}}, []int{1, 0}, []int{2}, [][]int{{0}, {1}}},
		{"wraps", []int{math.MaxInt}, [][]api.Op{{add(0, 1)}}, []int{0}, []int{math.MinInt}, [][]int{{math.MinInt}}},
	}
	for _, r := range rows {
		then, told, f := cell.Mix(r.mem, r.tasks, r.picks)
		same(t, r.what+", memory", then, r.then)
		same(t, r.what+", told", told, r.told)
		same(t, r.what+", fault", f, none)
	}
}

// P1.3: at the limits, every task has a list of its own, and picks that come too late do nothing.
func TestMixLimits(t *testing.T) {
	tasks := make([][]api.Op, api.MaxTask)
	for i := range tasks {
		tasks[i] = []api.Op{add(0, 1)}
	}
	tasks[api.MaxTask-1] = loads(api.MaxOps)
	picks := make([]int, api.MaxOps)
	for i := range picks {
		picks[i] = i % api.MaxTask
	}
	then, told, f := cell.Mix(make([]int, api.MaxCell), tasks, picks)
	if f != none || len(told) != api.MaxTask {
		t.Fatalf("limits: %d tasks, %v", len(told), f)
	}
	same(t, "adds", then[0], api.MaxTask-1)
	same(t, "told by the last", len(told[api.MaxTask-1]), api.MaxOps/api.MaxTask)
}

// P1.3: each fault, its place, and the order where several apply.
func TestMixFaults(t *testing.T) {
	mem := []int{0}
	good, kind, form, reach := []api.Op{load(0)}, []api.Op{{}}, []api.Op{load(0), {Kind: api.Load, B: 1}}, []api.Op{load(0), load(0), load(1)}
	manyTasks := append([][]api.Op{kind}, make([][]api.Op, api.MaxTask)...)
	rows := []struct {
		what  string
		mem   []int
		tasks [][]api.Op
		picks []int
		want  api.Fault
	}{
		{"a task too many", mem, make([][]api.Op, api.MaxTask+1), nil, fault(api.ErrMany, 0)},
		{"a pick too many", mem, [][]api.Op{good}, make([]int, api.MaxOps+1), fault(api.ErrMany, 0)},
		{"tasks ahead of Check", mem, manyTasks, []int{-1}, fault(api.ErrMany, 0)},
		{"picks ahead of Check", mem, [][]api.Op{form}, make([]int, api.MaxOps+1), fault(api.ErrMany, 0)},
		{"many cells", make([]int, api.MaxCell+1), [][]api.Op{nil}, nil, fault(api.ErrMany, 0)},
		{"many ops", mem, [][]api.Op{good, loads(api.MaxOps + 1)}, nil, fault(api.ErrMany, 0)},
		{"kind", mem, [][]api.Op{good, kind}, nil, fault(api.ErrKind, 0)},
		{"form", mem, [][]api.Op{good, form}, nil, fault(api.ErrForm, 1)},
		{"range", mem, [][]api.Op{good, reach}, nil, fault(api.ErrRange, 2)},
		{"the first task first", mem, [][]api.Op{reach, kind}, nil, fault(api.ErrRange, 2)},
		{"the second then", mem, [][]api.Op{good, form, kind}, nil, fault(api.ErrForm, 1)},
		{"an earlier task ahead of a later one's many ops", mem, [][]api.Op{form, loads(api.MaxOps + 1)}, nil, fault(api.ErrForm, 1)},
		{"ops ahead of picks", mem, [][]api.Op{good, form}, []int{9}, fault(api.ErrForm, 1)},
		{"an op that nobody picks", mem, [][]api.Op{good, reach}, []int{0}, fault(api.ErrRange, 2)},
		{"a pick beyond the last", mem, [][]api.Op{good, good}, []int{1, 0, 2, -1}, fault(api.ErrRange, 2)},
		{"a pick ahead of the first", mem, [][]api.Op{good}, []int{0, -1, 5}, fault(api.ErrRange, 1)},
		{"a pick far below", mem, [][]api.Op{good}, []int{math.MinInt}, fault(api.ErrRange, 0)},
		{"a pick of no tasks", nil, nil, []int{0}, fault(api.ErrRange, 0)},
	}
	for _, r := range rows {
		then, told, f := cell.Mix(r.mem, r.tasks, r.picks)
		same(t, r.what, f, r.want)
		if len(then) != 0 || len(told) != 0 {
			t.Errorf("%s: beside the fault stand %v %v", r.what, then, told)
		}
	}
}

// P1.3: Check speaks of a memory and a task; where there is no task, it says nothing.
func TestMixWithoutTasksAsksNoCheck(t *testing.T) {
	then, told, f := cell.Mix(make([]int, api.MaxCell+1), nil, nil)
	if f != none || len(then) != api.MaxCell+1 || len(told) != 0 {
		t.Errorf("%d cells, %v, %v", len(then), told, f)
	}
}
