package cell_test

import (
	"math"
	"testing"

	"taskmill/api"
	"taskmill/cell"
)

// P1.1: what is right has no fault.
func TestCheckRight(t *testing.T) {
	mem := []int{1, 2}
	rows := []struct {
		what string
		mem  []int
		ops  []api.Op
	}{
		{"nothing", nil, nil},
		{"no ops", mem, nil},
		{"no ops, empty", mem, []api.Op{}},
		{"each kind, last cell", mem, []api.Op{load(1), store(1, 5), add(1, 5), swap(1, 5), cas(1, 5, 6)}},
		{"zeros", mem, []api.Op{load(0), store(0, 0), add(0, 0), swap(0, 0), cas(0, 0, 0)}},
		{"farthest numbers", mem, []api.Op{store(0, math.MinInt), add(0, math.MaxInt), cas(0, math.MinInt, math.MaxInt)}},
		{"MaxCell cells", make([]int, api.MaxCell), []api.Op{load(api.MaxCell - 1)}},
		{"MaxOps ops", mem, loads(api.MaxOps)},
	}
	for _, r := range rows {
		same(t, r.what, cell.Check(r.mem, r.ops), none)
	}
}

// P1.1: each fault of its own, and its place.
func TestCheckFaults(t *testing.T) {
	mem := []int{1, 2}
	rows := []struct {
		what string
		mem  []int
		ops  []api.Op
		want api.Fault
	}{
		{"a cell too many", make([]int, api.MaxCell+1), nil, fault(api.ErrMany, 0)},
		{"an op too many", mem, loads(api.MaxOps + 1), fault(api.ErrMany, 0)},
		{"kind 0", mem, []api.Op{load(0), {}}, fault(api.ErrKind, 1)},
		{"kind 6", mem, []api.Op{{Kind: 6}}, fault(api.ErrKind, 0)},
		{"kind -1", mem, []api.Op{{Kind: -1}}, fault(api.ErrKind, 0)},
		{"kind far", mem, []api.Op{{Kind: math.MinInt}}, fault(api.ErrKind, 0)},
		{"kind that is one in 32 bits", mem, []api.Op{{Kind: 1<<32 + api.Load}}, fault(api.ErrKind, 0)},
		{"Load with A", mem, []api.Op{load(0), load(1), {Kind: api.Load, A: 1}}, fault(api.ErrForm, 2)},
		{"Load with B", mem, []api.Op{{Kind: api.Load, B: -1}}, fault(api.ErrForm, 0)},
		{"Store with B", mem, []api.Op{load(0), {Kind: api.Store, A: 1, B: 1}}, fault(api.ErrForm, 1)},
		{"Add with B", mem, []api.Op{{Kind: api.Add, B: 1}}, fault(api.ErrForm, 0)},
		{"Swap with B", mem, []api.Op{{Kind: api.Swap, B: 1}}, fault(api.ErrForm, 0)},
		{"cell beyond the last", mem, []api.Op{load(1), load(2)}, fault(api.ErrRange, 1)},
		{"cell ahead of the first", mem, []api.Op{load(-1)}, fault(api.ErrRange, 0)},
		{"cell far", mem, []api.Op{load(math.MaxInt)}, fault(api.ErrRange, 0)},
		{"cell far below", mem, []api.Op{load(math.MinInt)}, fault(api.ErrRange, 0)},
		{"no cells", nil, []api.Op{load(0)}, fault(api.ErrRange, 0)},
		{"last of MaxOps", mem, append(loads(api.MaxOps-1), load(2)), fault(api.ErrRange, api.MaxOps-1)},
	}
	for _, r := range rows {
		same(t, r.what, cell.Check(r.mem, r.ops), r.want)
	}
}

// P1.1: which fault is answered where several apply.
func TestCheckOrder(t *testing.T) {
	mem := []int{0}
	manyBad := append(make([]api.Op, 1), loads(api.MaxOps)...)
	rows := []struct {
		what string
		mem  []int
		ops  []api.Op
		want api.Fault
	}{
		{"many cells ahead of kind", make([]int, api.MaxCell+1), []api.Op{load(0), {}}, fault(api.ErrMany, 0)},
		{"many ops ahead of kind", mem, manyBad, fault(api.ErrMany, 0)},
		{"kind ahead of form and range", mem, []api.Op{{Kind: 9, At: 9, A: 9, B: 9}}, fault(api.ErrKind, 0)},
		{"form ahead of range", mem, []api.Op{{Kind: api.Load, At: 9, A: 9}}, fault(api.ErrForm, 0)},
		{"an earlier op's range ahead of a later one's kind", mem, []api.Op{load(0), load(9), {}}, fault(api.ErrRange, 1)},
		{"an earlier op's form ahead of a later one's kind", mem, []api.Op{{Kind: api.Add, B: 1}, {}}, fault(api.ErrForm, 0)},
	}
	for _, r := range rows {
		same(t, r.what, cell.Check(r.mem, r.ops), r.want)
	}
}
