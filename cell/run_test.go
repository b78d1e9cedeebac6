package cell_test

import (
	"math"
	"testing"

	"taskmill/api"
	"taskmill/cell"
)

// P1.2: the memory then, and what each op tells.
func TestRun(t *testing.T) {
	rows := []struct {
		what string
		mem  []int
		ops  []api.Op
		then []int
		told []int
	}{
		{"nothing", nil, nil, nil, nil},
		{"no ops", []int{3, 4}, nil, []int{3, 4}, nil},
		{"Load", []int{3, 4}, []api.Op{load(1), load(0)}, []int{3, 4}, []int{4, 3}},
		{"Store", []int{3, 4}, []api.Op{store(1, 7)}, []int{3, 7}, []int{0}},
		{"Add", []int{3, 4}, []api.Op{add(0, 5), add(0, -9)}, []int{-1, 4}, []int{8, -1}},
		{"Swap", []int{3, 4}, []api.Op{swap(0, 5), swap(0, 6)}, []int{6, 4}, []int{3, 5}},
		{"Cas finds", []int{3, 4}, []api.Op{cas(1, 4, 9)}, []int{3, 9}, []int{1}},
		{"Cas misses", []int{3, 4}, []api.Op{cas(1, 3, 9)}, []int{3, 4}, []int{0}},
		{"Cas puts in what is there", []int{3}, []api.Op{cas(0, 3, 3)}, []int{3}, []int{1}},
		{"Add wraps up", []int{math.MaxInt}, []api.Op{add(0, 1)}, []int{math.MinInt}, []int{math.MinInt}},
		{"Add wraps down", []int{math.MinInt}, []api.Op{add(0, -1)}, []int{math.MaxInt}, []int{math.MaxInt}},
		{"Add wraps far", []int{math.MinInt}, []api.Op{add(0, math.MinInt)}, []int{0}, []int{0}},
		{"one after the other", []int{5, 0}, []api.Op{load(0), store(1, 7), add(0, 2), swap(1, 9), cas(0, 7, 8), cas(0, 7, 1)}, []int{8, 9}, []int{5, 0, 7, 7, 1, 0}},
	}
	for _, r := range rows {
		then, told, f := cell.Run(r.mem, r.ops)
		same(t, r.what+", memory", then, r.then)
		same(t, r.what+", told", told, r.told)
		same(t, r.what+", fault", f, none)
	}
}

// P1.2: at the limits.
func TestRunLimits(t *testing.T) {
	mem := make([]int, api.MaxCell)
	ops := make([]api.Op, api.MaxOps)
	for i := range ops {
		ops[i] = add(api.MaxCell-1, 1)
	}
	then, told, f := cell.Run(mem, ops)
	if f != none || len(then) != api.MaxCell || len(told) != api.MaxOps {
		t.Fatalf("limits: %d cells, %d told, %v", len(then), len(told), f)
	}
	same(t, "last cell", then[api.MaxCell-1], api.MaxOps)
	same(t, "last told", told[api.MaxOps-1], api.MaxOps)
}

// P1.2: a fault is what Check says, and there is nothing beside it.
func TestRunFaults(t *testing.T) {
	rows := []struct {
		mem []int
		ops []api.Op
	}{
		{make([]int, api.MaxCell+1), nil},
		{[]int{1}, loads(api.MaxOps + 1)},
		{[]int{1}, []api.Op{store(0, 2), {}}},
		{[]int{1}, []api.Op{store(0, 2), {Kind: api.Swap, B: 1}}},
		{[]int{1}, []api.Op{store(0, 2), load(1)}},
		{nil, []api.Op{load(0)}},
		{[]int{1}, []api.Op{load(-1), {}}},
	}
	for i, r := range rows {
		then, told, f := cell.Run(r.mem, r.ops)
		if f == none || len(then) != 0 || len(told) != 0 {
			t.Errorf("row %d: %v %v %v", i, then, told, f)
		}
		same(t, "what Check says", f, cell.Check(r.mem, r.ops))
	}
}
