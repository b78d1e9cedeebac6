package sweep_test

import (
	"fmt"
	"math/rand"
	"slices"
	"testing"

	"taskmill/api"
	"taskmill/sweep"
)

// The chapter's examples.
func TestExamples(t *testing.T) {
	list, f := sweep.Lost(heap("0", "1", ""))
	same(t, "nothing is lost", told(list, f), told([]int{}, none))
	list, f = sweep.Lost(heap("0", "-", ""))
	same(t, "1 is", told(list, f), told([]int{1}, none))
	for barrier := range barriers {
		then, _, f := sweep.Cycle(heap("0", "1", ""), barrier, acts("write 0.0 -"))
		same(t, "written there", told(then, f), told(heap("0", "-", ""), none))
		list, f = sweep.Lost(then)
		same(t, "and lost", told(list, f), told([]int{1}, none))
	}
}

// cycleOf asks for a cycle of which nothing is wrong.
func cycleOf(t *testing.T, h api.Heap, barrier int, l []api.Act) (api.Heap, []int) {
	t.Helper()
	then, white, f := sweep.Cycle(h, barrier, l)
	if f != none {
		t.Errorf("cycle %d of %v by %v: %v", barrier, h, l, f)
	}
	return then, white
}

// lostOf asks for what is lost in a heap of which nothing is wrong.
func lostOf(t *testing.T, h api.Heap) []int {
	t.Helper()
	list, f := sweep.Lost(h)
	if f != none {
		t.Errorf("lost of %v: %v", h, f)
	}
	return list
}

// areIn: are all of some numbers in a list?
func areIn(some, list []int) bool {
	return !slices.ContainsFunc(some, func(n int) bool { return !slices.Contains(list, n) })
}

// eachCycle goes through any right heaps and acts, small ones and a few large ones.
func eachCycle(seed int64, ask func(what string, r *rand.Rand, h api.Heap, l []api.Act)) {
	r := rand.New(rand.NewSource(seed))
	for round := range 6010 {
		h, many := smallHeap(r), r.Intn(20)
		if round >= 6000 {
			h, many = anyHeap(r, mostObjects-r.Intn(200), mostRegisters, 2), 1+r.Intn(api.MaxOps)
		}
		l := rightActs(r, h, many)
		ask(fmt.Sprintf("%.300s by %.300s", fmt.Sprint(h), fmt.Sprint(l)), r, h, l)
	}
}

// What follows: with the barriers 1, 2 and 3 nothing white is reached; with 0 it may be.
func TestNothingWhiteIsReached(t *testing.T) {
	reached, found := 0, [barriers]int{}
	eachCycle(351, func(what string, r *rand.Rand, h api.Heap, l []api.Act) {
		for barrier := range barriers {
			then, white := cycleOf(t, h, barrier, l)
			found[barrier] += len(white)
			switch nobody := lostByTheWords(then); {
			case barrier == 0 && !areIn(white, nobody):
				reached++
			case barrier > 0 && (!areIn(white, nobody) || !areIn(white, lostOf(t, then))):
				t.Errorf("%s: %d: %v is white, %v lost", what, barrier, white, nobody)
			}
		}
	})
	if reached < 100 || slices.Min(found[:]) < 5000 {
		t.Errorf("%d cycles without a barrier in which something white is reached; %v are white", reached, found)
	}
}

// What follows, told once: something white is reached with the barrier 0, and with no other.
func TestWhiteIsReachedWithoutBarrier(t *testing.T) {
	h := heap("0 -", "1", "")
	for barrier, want := range []string{"[1] []", "[] []", "[] []", "[] []"} {
		then, white := cycleOf(t, h, barrier, acts("load 1 0.0; mark; write 0.0 -; write 0.0 1"))
		same(t, fmt.Sprint("still found, ", barrier), fmt.Sprint(white, lostOf(t, then)), "[] []")
		then, white = cycleOf(t, h, barrier, acts("load 1 0.0; write 0.0 -; mark; write 0.0 1; copy 1 -"))
		same(t, fmt.Sprint("held by a slot, ", barrier), fmt.Sprint(white, lostOf(t, then)), want)
		then, white = cycleOf(t, h, barrier, acts("load 1 0.0; write 0.0 -"))
		same(t, fmt.Sprint("held by a register, ", barrier), fmt.Sprint(white, lostOf(t, then)), want)
	}
}

// What follows: with acts that are all GcMark, just what is lost is white, and the heap is as it was.
func TestMarksAlone(t *testing.T) {
	lost := 0
	eachCycle(352, func(what string, r *rand.Rand, h api.Heap, l []api.Act) {
		for barrier := range barriers {
			then, white := cycleOf(t, h, barrier, marks(len(l)))
			if !alike(then, h) || !slices.Equal(white, lostOf(t, h)) || !slices.Equal(white, lostByTheWords(h)) {
				t.Errorf("%s: %d: %v, %v is white, %v lost", what, barrier, then, white, lostByTheWords(h))
			}
			lost += len(white)
		}
	})
	if lost < 10000 {
		t.Errorf("only %d are lost", lost)
	}
}

// What follows: with the barriers 2 and 3 what was reached at first is not white. (What was not, nobody can reach any more: it is white with each barrier.)
func TestReachedAtFirstIsNotWhite(t *testing.T) {
	later := 0
	eachCycle(353, func(what string, r *rand.Rand, h api.Heap, l []api.Act) {
		first := lostByTheWords(h)
		for barrier := range barriers {
			then, white := cycleOf(t, h, barrier, l)
			if barrier >= 2 && !areIn(white, first) {
				t.Errorf("%s: %d: %v is white, %v was lost at first", what, barrier, white, first)
			}
			if !areIn(first, white) || !areIn(first, lostByTheWords(then)) {
				t.Errorf("%s: %d: %v was lost at first, %v is white", what, barrier, first, white)
			}
			later += len(lostByTheWords(then)) - len(first)
		}
	})
	if later < 10000 {
		t.Errorf("only %d become lost in a cycle", later)
	}
}

// What follows: what becomes lost in a cycle is found by the next one, whatever is done in that.
func TestFoundByTheNextOne(t *testing.T) {
	found := [barriers]int{}
	eachCycle(354, func(what string, r *rand.Rand, h api.Heap, l []api.Act) {
		for barrier := range barriers {
			then, white := cycleOf(t, h, barrier, l)
			lost := lostOf(t, then)
			_, next := cycleOf(t, then, barrier, rightActs(r, then, r.Intn(20)))
			if !areIn(lost, next) || barrier >= 2 && !slices.Equal(lost, next) {
				t.Errorf("%s: %d: %v is lost, %v found by the next one", what, barrier, lost, next)
			}
			found[barrier] += len(lost) - len(white)
		}
	})
	if found[2] < 1000 || found[3] < 1000 {
		t.Errorf("only so many are found by the next one: %v", found)
	}
}

// What follows, told once: what becomes lost in a cycle, is found by the next one with the barriers 2 and 3, and by this one with 1.
func TestLostInACycle(t *testing.T) {
	h, l := heap("0", "1", "2", "", ""), acts("mark; write 0.0 -")
	for barrier, want := range []string{"[3] [1 2 3]", "[3] [1 2 3]", "[3] [1 2 3]", "[3] [1 2 3]"} {
		then, white := cycleOf(t, h, barrier, l)
		_, next := cycleOf(t, then, barrier, nil)
		same(t, fmt.Sprint("cut behind the marker, ", barrier), fmt.Sprint(white, next), want)
	}
	for barrier, want := range []string{"[1 2 3] [1 2 3]", "[1 2 3] [1 2 3]", "[3] [1 2 3]", "[3] [1 2 3]"} {
		then, white := cycleOf(t, h, barrier, l[1:])
		_, next := cycleOf(t, then, barrier, nil)
		same(t, fmt.Sprint("cut ahead of the marker, ", barrier), fmt.Sprint(white, next), want)
	}
}

// What is answered is a heap of which nothing is wrong, that has all objects that were there, and those that are new.
func TestHeapThen(t *testing.T) {
	eachCycle(355, func(what string, r *rand.Rand, h api.Heap, l []api.Act) {
		born := len(slices.DeleteFunc(slices.Clone(l), func(a api.Act) bool { return a.Op != api.GcNew }))
		for barrier := range barriers {
			then, white := cycleOf(t, h, barrier, l)
			if sweep.Check(then) != none || len(then.Objects) != len(h.Objects)+born || len(then.Roots) != len(h.Roots) {
				t.Errorf("%s: %d: %.500s", what, barrier, fmt.Sprint(then))
			}
			if !slices.IsSorted(white) || len(slices.Compact(slices.Clone(white))) != len(white) || !areIn(white, upTo(len(h.Objects))) {
				t.Errorf("%s: %d: %v is white", what, barrier, white)
			}
		}
	})
}
