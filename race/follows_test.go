package race_test

import (
	"math/rand"
	"testing"

	"taskmill/api"
	"taskmill/race"
)

// The chapter's examples.
func TestExamples(t *testing.T) {
	stores := events("1 store; 2 store")
	same(t, "two tasks store into one cell", allTold(t, stores, nil), "0-1")
	askFirst(t, "two tasks store into one cell", stores, nil, 1)
	held := events("1 lock 0 1; 1 store; 1 unlock 0 1; 2 lock 0 1; 2 store; 2 unlock 0 1")
	same(t, "each does so holding lock 0 written", allTold(t, held, nil), "")
	askFirst(t, "each does so holding lock 0 written", held, nil, -1)
	same(t, "their guards", guardsTold(t, held, nil), [][]int{{0}})
}

// What follows: there is a First just where there are some of All, and it is the later one of the first of them.
func TestFirstWhereAll(t *testing.T) {
	r := rand.New(rand.NewSource(171))
	some, no := 0, 0
	for range 5000 {
		trace, pipes := anyTrace(r, r.Intn(25))
		pairs, f := race.All(trace, pipes)
		same(t, "all", f, none)
		if len(pairs) == 0 {
			no++
			askFirst(t, "none", trace, pipes, -1)
			continue
		}
		some++
		askFirst(t, "some", trace, pipes, pairs[0][1])
	}
	if some < 500 || no < 500 {
		t.Errorf("%d with races, %d without", some, no)
	}
}

// lastStore is the one store that happens before a load, of the same cell, before which all others of these happen; -1: there is no store; -2: there is no such one.
func lastStore(trace []api.Event, before [][]bool, load int) int {
	var stores []int
	for at, e := range trace {
		if e.Op == api.OpStore && e.Obj == trace[load].Obj && before[at][load] {
			stores = append(stores, at)
		}
	}
	if len(stores) == 0 {
		return -1
	}
	for _, last := range stores {
		others := 0
		for _, other := range stores {
			if other != last && before[other][last] {
				others++
			}
		}
		if others == len(stores)-1 {
			return last
		}
	}
	return -2
}

// askLoads: does each load of a run without a race tell what the last store that happens before it stored, or 0? How many do.
func askLoads(t *testing.T, trace []api.Event, pipes []int) int {
	t.Helper()
	is, loads := before(t, trace, pipes), 0
	for at, e := range trace {
		if e.Op != api.OpLoad {
			continue
		}
		last, want := lastStore(trace, is, at), 0
		if last >= 0 {
			want, loads = trace[last].Value, loads+1
		}
		if last == -2 || e.Value != want {
			t.Fatalf("the load %d tells %d, want %d, which %d stored: %v", at, e.Value, want, last, trace)
		}
	}
	return loads
}

// What follows: where there is no race each load tells what the last store that happens before it stored, or 0, in programs that never race.
func TestLoadsTellTheLastStore(t *testing.T) {
	r := rand.New(rand.NewSource(172))
	for what, text := range neverRaces() {
		p, loads := coded(t, text), 0
		for range 40 {
			trace := played(t, p, anyScript(r, 2, 20+r.Intn(50)))
			same(t, what, allTold(t, trace, p.Pipes), "")
			loads += askLoads(t, trace, p.Pipes)
		}
		if loads < 5 && what != "two who load" {
			t.Errorf("%s: %d loads of what was stored", what, loads)
		}
	}
}

// anyProgram is one whose tasks do all kinds of things with few cells, and what they store differs.
func anyProgram(r *rand.Rand) api.Program {
	const size = 24
	list := []api.Instr{{Op: api.OpGo, A: r.Intn(size), B: 0}, {Op: api.OpGo, A: r.Intn(size), B: 1}}
	for at := len(list); at < size; at++ {
		kinds := []api.Instr{
			{Op: api.OpSet, A: r.Intn(4), B: 1 + at}, {Op: api.OpLoad, A: r.Intn(4), B: r.Intn(2)}, {Op: api.OpStore, A: r.Intn(2), B: r.Intn(4)},
			{Op: api.OpLock, A: 0, B: 1}, {Op: api.OpUnlock, A: 0, B: 1}, {Op: api.OpSend, A: r.Intn(3), B: r.Intn(4)}, {Op: api.OpGet, A: r.Intn(4), B: r.Intn(3)},
			{Op: api.OpYield}, {Op: api.OpLoad, A: r.Intn(4), B: r.Intn(2)}, {Op: api.OpStore, A: r.Intn(2), B: r.Intn(4)},
		}
		list = append(list, kinds[r.Intn(len(kinds))])
	}
	return api.Program{Code: list, Cells: 2, Pipes: []int{0, 1, 2}, Locks: 1}
}

// What follows, in programs of all kinds: only the runs without a race are asked.
func TestLoadsOfAnyPrograms(t *testing.T) {
	r := rand.New(rand.NewSource(173))
	races, loads := 0, 0
	for range 9000 {
		p := anyProgram(r)
		trace := played(t, p, anyScript(r, 2, r.Intn(60)))
		if allTold(t, trace, p.Pipes) != "" {
			races++
			continue
		}
		loads += askLoads(t, trace, p.Pipes)
	}
	if races < 300 || loads < 300 {
		t.Errorf("%d runs with races, %d loads of what was stored in the others", races, loads)
	}
}
