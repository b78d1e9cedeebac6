package cell_test

import (
	"fmt"
	"math"
	"math/rand"
	"slices"
	"testing"

	"taskmill/api"
	"taskmill/cell"
)

// P1.4, and the chapter's examples.
func TestEnds(t *testing.T) {
	raise, more := []api.Op{load(0), store(0, 1)}, []api.Op{add(0, 1)}
	rows := []struct {
		what  string
		mem   []int
		tasks [][]api.Op
		want  [][]int
	}{
		{"example: Load and Store 1 each", []int{0}, [][]api.Op{raise, raise}, [][]int{{1}}},
		{"example: Add 1 each", []int{0}, [][]api.Op{more, more}, [][]int{{2}}},
		{"no tasks", []int{5, 6}, nil, [][]int{{5, 6}}},
		{"nothing: one memory without cells", nil, nil, [][]int{{}}},
		{"tasks without ops", []int{5}, [][]api.Op{nil, {}, nil, {}}, [][]int{{5}}},
		{"one task has one order", []int{0}, [][]api.Op{{store(0, 1), store(0, 2)}}, [][]int{{2}}},
		{"a task's own order stays", []int{0}, [][]api.Op{{store(0, 3), store(0, 2)}, {store(0, 1)}}, [][]int{{1}, {2}}},
		{"one Cas wins", []int{0}, [][]api.Op{{cas(0, 0, 2)}, {cas(0, 0, 1)}}, [][]int{{1}, {2}}},
		{"Cas hangs on the order", []int{0, 0}, [][]api.Op{{store(0, 1)}, {cas(0, 1, 5)}}, [][]int{{1, 0}, {5, 0}}},
		{"Add and Store", []int{0}, [][]api.Op{{add(0, 10)}, {store(0, 1)}}, [][]int{{1}, {11}}},
		{"by the first cell that differs", []int{0, 0, 7}, [][]api.Op{{store(0, 2), store(1, 1)}, {store(0, 1), store(1, 2)}}, [][]int{{1, 1, 7}, {1, 2, 7}, {2, 1, 7}, {2, 2, 7}}},
		{"less as a number, not as a text", []int{0}, [][]api.Op{{store(0, 9)}, {store(0, 10)}, {store(0, -2)}, {store(0, -10)}}, [][]int{{-10}, {-2}, {9}, {10}}},
		{"farthest numbers", []int{0}, [][]api.Op{{store(0, math.MaxInt)}, {store(0, math.MinInt)}}, [][]int{{math.MinInt}, {math.MaxInt}}},
		{"wraps", []int{0}, [][]api.Op{{store(0, math.MaxInt)}, {add(0, 1)}}, [][]int{{math.MinInt}, {math.MaxInt}}},
	}
	for _, r := range rows {
		ends, f := cell.Ends(r.mem, r.tasks)
		same(t, r.what, ends, r.want)
		same(t, r.what+", number", len(ends), len(r.want))
		same(t, r.what+", fault", f, none)
	}
}

// P1.4: each fault, its place, and the order where several apply.
func TestEndsFaults(t *testing.T) {
	mem := []int{0}
	good, kind, form, reach := []api.Op{load(0)}, []api.Op{{}}, []api.Op{load(0), {Kind: api.Load, B: 1}}, []api.Op{load(0), load(0), load(1)}
	rows := []struct {
		what  string
		mem   []int
		tasks [][]api.Op
		want  api.Fault
	}{
		{"five tasks", mem, make([][]api.Op, 5), fault(api.ErrMany, 0)},
		{"five tasks ahead of Check", mem, [][]api.Op{form, nil, nil, nil, nil}, fault(api.ErrMany, 0)},
		{"13 ops of one", mem, [][]api.Op{loads(13)}, fault(api.ErrMany, 0)},
		{"13 ops together", mem, [][]api.Op{loads(3), loads(3), loads(3), loads(4)}, fault(api.ErrMany, 0)},
		{"MaxOps ops each", mem, [][]api.Op{loads(api.MaxOps), loads(api.MaxOps), loads(api.MaxOps), loads(api.MaxOps)}, fault(api.ErrMany, 0)},
		{"many cells", make([]int, api.MaxCell+1), [][]api.Op{nil}, fault(api.ErrMany, 0)},
		{"many ops", mem, [][]api.Op{loads(api.MaxOps + 1), kind}, fault(api.ErrMany, 0)},
		{"kind", mem, [][]api.Op{good, kind}, fault(api.ErrKind, 0)},
		{"form", mem, [][]api.Op{good, form}, fault(api.ErrForm, 1)},
		{"range", mem, [][]api.Op{good, reach}, fault(api.ErrRange, 2)},
		{"the first task first", mem, [][]api.Op{reach, kind}, fault(api.ErrRange, 2)},
		{"Check ahead of 13 ops", mem, [][]api.Op{loads(13), form}, fault(api.ErrForm, 1)},
		{"no cells", nil, [][]api.Op{good}, fault(api.ErrRange, 0)},
	}
	for _, r := range rows {
		ends, f := cell.Ends(r.mem, r.tasks)
		same(t, r.what, f, r.want)
		if len(ends) != 0 {
			t.Errorf("%s: beside the fault stand %v", r.what, ends)
		}
	}
}

// P1.4: Check speaks of a memory and a task; where there is no task, it says nothing.
func TestEndsWithoutTasksAsksNoCheck(t *testing.T) {
	ends, f := cell.Ends(make([]int, api.MaxCell+1), nil)
	if f != none || len(ends) != 1 || len(ends[0]) != api.MaxCell+1 {
		t.Errorf("%v, %v", ends, f)
	}
}

// P1.4: at the limits: four tasks, 12 ops and MaxCell cells.
func TestEndsLimits(t *testing.T) {
	tasks := make([][]api.Op, 4)
	for i := range tasks {
		tasks[i] = []api.Op{swap(31, i+1), swap(30, i+1), swap(29, i+1)}
	}
	ends, f := cell.Ends(make([]int, api.MaxCell), tasks)
	same(t, "fault", f, none)
	same(t, "number", len(ends), 4*4*4)
	ends, f = cell.Ends([]int{0}, [][]api.Op{loads(12)})
	same(t, "12 ops of one", fmt.Sprint(ends, f), "[[0]] {0 0}")
}

// P1.4: Ends are just those memories that Mix leaves for some order of picks.
func TestEndsAreThoseOfMix(t *testing.T) {
	r := rand.New(rand.NewSource(1))
	for range 400 {
		cells := 1 + r.Intn(3)
		mem := make([]int, cells)
		tasks := make([][]api.Op, r.Intn(4))
		for i := range tasks {
			tasks[i] = anyOps(r, r.Intn(4), cells)
		}
		ends, f := cell.Ends(mem, tasks)
		same(t, "fault", f, none)
		same(t, fmt.Sprint("ends of ", tasks), ends, endsByMix(t, mem, tasks))
	}
}

// endsByMix goes through every order of picks, one by one.
func endsByMix(t *testing.T, mem []int, tasks [][]api.Op) [][]int {
	var all [][]int
	var pick func(picks []int, left []int)
	pick = func(picks, left []int) {
		last := true
		for i, n := range left {
			if n > 0 {
				last = false
				left[i]--
				pick(append(picks, i), left)
				left[i]++
			}
		}
		if last {
			then, _, f := cell.Mix(mem, tasks, picks)
			same(t, "mix", f, none)
			all = append(all, then)
		}
	}
	left := make([]int, len(tasks))
	for i, ops := range tasks {
		left[i] = len(ops)
	}
	pick(nil, left)
	slices.SortFunc(all, slices.Compare)
	return slices.CompactFunc(all, slices.Equal)
}
