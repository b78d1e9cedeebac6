package ring_test

import (
	"fmt"
	"math"
	"testing"

	"taskmill/api"
	"taskmill/ring"
)

// P2.1: what is right has no fault.
func TestCheckRight(t *testing.T) {
	rows := []struct {
		what string
		q    api.Ring
	}{
		{"nothing", api.Ring{}},
		{"empty list", api.Ring{List: []int{}}},
		{"Next alone", ringOf(1)},
		{"list alone", ringOf(0, 3, 1, 2)},
		{"both", ringOf(4, 3, 1, 2)},
		{"farthest tasks", ringOf(math.MaxInt, 1, math.MaxInt-1, 1<<32+1)},
		{"MaxRing tasks", ringOf(0, upTo(1, api.MaxRing)...)},
		{"MaxRing tasks and Next", ringOf(1, upTo(2, api.MaxRing)...)},
	}
	for _, r := range rows {
		same(t, r.what, ring.Check(r.q), none)
	}
}

// P2.1: each fault, its place, and which is answered where several apply.
func TestCheckFaults(t *testing.T) {
	for _, w := range wrongRings() {
		same(t, w.what, ring.Check(w.q), w.want)
	}
}

// P2.2: the ring then, and what spills.
func TestPut(t *testing.T) {
	const most, half = api.MaxRing, api.MaxRing / 2
	full := upTo(1, most)
	rows := []struct {
		what  string
		q     api.Ring
		task  int
		next  bool
		then  api.Ring
		spilt []int
	}{
		{"example: with next", ringOf(2, 1), 3, true, ringOf(3, 1, 2), nil},
		{"without next", ringOf(2, 1), 3, false, ringOf(2, 1, 3), nil},
		{"without next, none was Next", ringOf(0, 1), 3, false, ringOf(0, 1, 3), nil},
		{"with next, none was Next", ringOf(0, 1, 2), 3, true, ringOf(3, 1, 2), nil},
		{"into nothing", api.Ring{}, 5, false, ringOf(0, 5), nil},
		{"into nothing, with next", api.Ring{}, 5, true, ringOf(5), nil},
		{"behind Next alone", ringOf(7), 5, false, ringOf(7, 5), nil},
		{"Next is put into an empty list", ringOf(7), 5, true, ringOf(5, 7), nil},
		{"farthest task", ringOf(1), math.MaxInt, true, ringOf(math.MaxInt, 1), nil},
		{"becomes full", ringOf(900, full[1:]...), 901, false, ringOf(900, join(full[1:], []int{901})...), nil},
		{"becomes full by Next", ringOf(900, full[1:]...), 901, true, ringOf(901, join(full[1:], []int{900})...), nil},
		{"spills", ringOf(0, full...), 901, false, ringOf(0, full[half:]...), join(full[:half], []int{901})},
		{"spills behind Next", ringOf(900, full...), 901, false, ringOf(900, full[half:]...), join(full[:half], []int{901})},
		{"Next spills", ringOf(900, full...), 901, true, ringOf(901, full[half:]...), join(full[:half], []int{900})},
		{"full, with next, none was Next", ringOf(0, full...), 901, true, ringOf(901, full...), nil},
	}
	for _, r := range rows {
		then, spilt, f := ring.Put(r.q, r.task, r.next)
		same(t, r.what+", ring", then, r.then)
		same(t, r.what+", spilt", spilt, r.spilt)
		same(t, r.what+", fault", f, none)
	}
}

// P2.2: each fault, its place, and the order where several apply; next changes nothing of it.
func TestPutFaults(t *testing.T) {
	full := upTo(1, api.MaxRing)
	rows := []struct {
		what string
		q    api.Ring
		task int
		want api.Fault
	}{
		{"task 0", ringOf(2, 1), 0, fault(api.ErrRange, -1)},
		{"task 0, no Next", ringOf(0, 1), 0, fault(api.ErrRange, -1)},
		{"task below 0", api.Ring{}, -1, fault(api.ErrRange, -1)},
		{"task far below", api.Ring{}, math.MinInt, fault(api.ErrRange, -1)},
		{"task is Next", ringOf(2, 1), 2, fault(api.ErrTwice, -1)},
		{"task is Next alone", ringOf(2), 2, fault(api.ErrTwice, -1)},
		{"task is first", ringOf(2, 1, 4, 5), 1, fault(api.ErrTwice, -1)},
		{"task is last", ringOf(2, 1, 4, 5), 5, fault(api.ErrTwice, -1)},
		{"task would spill", ringOf(0, full...), 1, fault(api.ErrTwice, -1)},
		{"task is last of MaxRing", ringOf(0, full...), api.MaxRing, fault(api.ErrTwice, -1)},
	}
	for _, r := range rows {
		for _, next := range []bool{false, true} {
			then, spilt, f := ring.Put(r.q, r.task, next)
			same(t, r.what, f, r.want)
			bare(t, r.what, []api.Ring{then}, spilt, 0)
		}
	}
	for _, w := range wrongRings() {
		for _, task := range []int{1000, 0, -1, 4} {
			then, spilt, f := ring.Put(w.q, task, task == 0)
			same(t, fmt.Sprint(w.what, ", ahead of task ", task), f, w.want)
			bare(t, w.what, []api.Ring{then}, spilt, 0)
		}
	}
}

// P2.3: Next first, if it is not 0, then those of List in order.
func TestTake(t *testing.T) {
	full := upTo(2, api.MaxRing)
	rows := []struct {
		what string
		q    api.Ring
		then api.Ring
		task int
	}{
		{"Next first", ringOf(3, 1, 2), ringOf(0, 1, 2), 3},
		{"Next alone", ringOf(3), api.Ring{}, 3},
		{"the list's first", ringOf(0, 1, 2), ringOf(0, 2), 1},
		{"not the least", ringOf(0, 9, 2, 5), ringOf(0, 2, 5), 9},
		{"the last one", ringOf(0, 1), api.Ring{}, 1},
		{"farthest task", ringOf(math.MaxInt), api.Ring{}, math.MaxInt},
		{"MaxRing tasks", ringOf(0, full...), ringOf(0, full[1:]...), 2},
		{"MaxRing tasks and Next", ringOf(1, full...), ringOf(0, full...), 1},
	}
	for _, r := range rows {
		then, task, f := ring.Take(r.q)
		same(t, r.what+", ring", then, r.then)
		same(t, r.what+", task", task, r.task)
		same(t, r.what+", fault", f, none)
	}
}

// P2.3: each fault.
func TestTakeFaults(t *testing.T) {
	rows := append(wrongRings(),
		wrongRing{"none", api.Ring{}, fault(api.ErrNone, 0)},
		wrongRing{"none in an empty list", api.Ring{List: []int{}}, fault(api.ErrNone, 0)})
	for _, r := range rows {
		then, task, f := ring.Take(r.q)
		same(t, r.what, f, r.want)
		bare(t, r.what, []api.Ring{then}, nil, task)
	}
}
