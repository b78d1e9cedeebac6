package order_test

import (
	"math/rand"
	"strings"
	"testing"

	"taskmill/api"
	"taskmill/code"
	"taskmill/world"
)

// anOrder is a trace with its pipes.
type anOrder struct {
	trace []api.Event
	pipes []int
}

// anyOrder is a right one: of a run, or of none.
func anyOrder(r *rand.Rand, t *testing.T) anOrder {
	t.Helper()
	if r.Intn(2) == 0 {
		trace, pipes := anyTrace(r, r.Intn(20))
		return anOrder{trace, pipes}
	}
	p := programs(t)[r.Intn(len(programs(t)))]
	trace := played(t, p, anyScript(r, 2, r.Intn(50)))
	return anOrder{trace[:min(len(trace), 20)], p.Pipes}
}

// coded is a program of these instructions, written as chapter 11 has them, but with `; ` between them.
// It has 3 cells, 2 locks, 2 groups, and pipes that hold 0, 1 and 2.
func coded(t *testing.T, text string) api.Program {
	t.Helper()
	list, f := code.Parse(strings.ReplaceAll(text, "; ", "\n") + "\n")
	if f != none {
		t.Fatalf("%s: %v", text, f)
	}
	return api.Program{Code: list, Cells: 3, Pipes: []int{0, 1, 2}, Locks: 2, Groups: 2}
}

// programs are some in which tasks meet at things of all kinds.
func programs(t *testing.T) []api.Program {
	t.Helper()
	var list []api.Program
	for _, text := range []string{
		"go @5 r0; go @5 r0; get r0 p0; get r0 p0; jump @2; load r1 c0; send p0 r1; store c0 r1; jump @5",
		"go @5 r0; go @5 r0; send p0 r0; send p0 r0; jump @2; store c0 r0; get r1 p0; load r1 c0; jump @5",
		"go @5 r0; go @5 r0; get r0 p1; load r1 c0; jump @2; store c0 r0; send p1 r1; jump @5",
		"go @6 r0; go @6 r0; send p2 r0; send p2 r0; send p2 r0; jump @2; load r0 c0; get r1 p2; jump @6",
		"go @4 r0; go @4 r0; send p1 r0; shut p1; get r0 p1; load r1 c1; print r7; jump @4",
		"go @4 r0; go @4 r0; shut p0; shut p0; get r0 p0; store c1 r0; get r0 p0; jump @4",
		"go @2 r0; go @2 r0; lock l0 1; load r1 c0; store c0 r1; unlock l0 1; jump @2",
		"go @2 r0; go @6 r0; lock l0 0; load r1 c0; unlock l0 0; jump @2; lock l0 1; store c0 r0; unlock l0 1; jump @6",
		"set r1 2; count g0 r1; go @7 r0; go @7 r0; wait g0; load r2 c0; end; store c0 r0; set r1 -1; count g0 r1; end",
		"go @0 r0; store c0 r0; lock l1 1; send p1 r0; unlock l1 1; get r0 p1; jump @1",
	} {
		list = append(list, coded(t, text))
	}
	return list
}

func anyScript(r *rand.Rand, procs, many int) []int {
	script := make([]int, many)
	for at := range script {
		script[at] = r.Intn(procs)
		if r.Intn(10) == 0 {
			script[at] = -1
		}
	}
	return script
}

// played is the trace of a run by two processors.
func played(t *testing.T, p api.Program, script []int) []api.Event {
	t.Helper()
	r, f := world.Play(p, 2, script)
	if f != none {
		t.Fatalf("%v", f)
	}
	return r.Trace
}

// What package world tells is right, and is ordered as the document's words say.
func TestPlayed(t *testing.T) {
	r := rand.New(rand.NewSource(151))
	ops := map[int]int{}
	for range 80 {
		for _, p := range programs(t) {
			trace := played(t, p, anyScript(r, 2, r.Intn(90)))
			same(t, "check", askAll(t, r, trace, p.Pipes), none)
			for _, e := range trace {
				ops[e.Op]++
			}
		}
	}
	for _, op := range []int{api.OpGo, api.OpSend, api.OpGet, api.OpShut, api.OpLock, api.OpUnlock, api.OpCount, api.OpWait} {
		if ops[op] < 40 {
			t.Errorf("not all events come: %v", ops)
		}
	}
}

// find is the first event of a trace that is of a task and an op, or -1.
func find(trace []api.Event, task, op int) int {
	for at, e := range trace {
		if e.Task == task && e.Op == op {
			return at
		}
	}
	return -1
}

// Whatever the script: what task 2 stores and hands on, in one of these ways, is stored before task 1 loads it.
func TestHandedOn(t *testing.T) {
	r := rand.New(rand.NewSource(152))
	for what, text := range map[string]string{
		"by a pipe that holds 0":         "go @4 r0; get r1 p0; load r1 c0; end; store c0 r0; send p0 r0; end",
		"by a pipe that holds 1":         "go @4 r0; get r1 p1; load r1 c0; end; store c0 r0; send p1 r0; end",
		"by a pipe that holds 2":         "go @4 r0; get r1 p2; load r1 c0; end; store c0 r0; send p2 r0; end",
		"by who gets, if the pipe is 0":  "go @4 r0; send p0 r1; load r1 c0; end; store c0 r0; get r1 p0; end",
		"by a pipe that is closed":       "go @4 r0; get r1 p1; load r1 c0; end; store c0 r0; shut p1; end",
		"by a group":                     "set r1 1; count g0 r1; go @6 r0; wait g0; load r1 c0; end; store c0 r0; set r1 -1; count g0 r1; end",
		"by room in a pipe that holds 1": "go @5 r0; send p1 r1; send p1 r1; load r1 c0; end; store c0 r0; get r1 p1; end",
		"by a third one, and two pipes":  "go @5 r0; go @8 r0; get r1 p1; load r1 c0; end; store c0 r0; send p0 r0; end; get r1 p0; send p1 r1; end",
		"by a lock, write to write":      "lock l0 1; go @5 r0; lock l0 1; load r1 c0; end; store c0 r0; unlock l0 1; end",
		"by a lock, write to read":       "lock l0 1; go @5 r0; lock l0 0; load r1 c0; end; store c0 r0; unlock l0 1; end",
		"by a lock, read to write":       "lock l0 0; go @5 r0; lock l0 1; load r1 c0; end; store c0 r0; unlock l0 0; end",
	} {
		p, loads := coded(t, text), 0
		for range 300 {
			trace := played(t, p, anyScript(r, 2, 30))
			store, load := find(trace, 2, api.OpStore), find(trace, 1, api.OpLoad)
			if load < 0 {
				continue
			}
			loads++
			if !happens(t, trace, p.Pipes, store, load) {
				t.Fatalf("%s: the store does not happen before the load: %v", what, trace)
			}
		}
		if loads < 30 {
			t.Errorf("%s: %d loads", what, loads)
		}
	}
}

// Whatever the script: what nobody hands on happens beside.
func TestNotHandedOn(t *testing.T) {
	r := rand.New(rand.NewSource(153))
	for what, text := range map[string]string{
		"nothing between them":                  "go @3 r0; load r1 c0; end; store c0 r0; end",
		"the sender of a pipe that holds 2":     "go @4 r0; send p2 r1; load r1 c0; end; store c0 r0; get r1 p2; end",
		"two who read":                          "go @5 r0; lock l0 0; load r1 c0; unlock l0 0; end; lock l0 0; store c0 r0; unlock l0 0; end",
		"two locks":                             "go @5 r0; lock l0 1; load r1 c0; unlock l0 1; end; lock l1 1; store c0 r0; unlock l1 1; end",
		"the send is ahead of the store":        "go @4 r0; get r1 p1; load r1 c0; end; send p1 r0; store c0 r0; end",
		"the load is ahead of the get":          "go @4 r0; load r1 c0; get r1 p1; end; store c0 r0; send p1 r0; end",
		"two who count, and nobody waits ahead": "set r1 1; go @5 r1; count g0 r1; load r1 c0; end; store c0 r0; count g0 r0; end",
	} {
		p, both := coded(t, text), 0
		for range 300 {
			trace := played(t, p, anyScript(r, 2, 30))
			store, load := find(trace, 2, api.OpStore), find(trace, 1, api.OpLoad)
			if load < 0 || store < 0 {
				continue
			}
			both++
			if happens(t, trace, p.Pipes, store, load) || happens(t, trace, p.Pipes, load, store) {
				t.Fatalf("%s: they do not happen beside each other: %v", what, trace)
			}
		}
		if both < 30 {
			t.Errorf("%s: %d of both", what, both)
		}
	}
}

// Whatever the script: of two tasks that hold a lock to write, one is through before the other one.
func TestHeldInTurns(t *testing.T) {
	r := rand.New(rand.NewSource(154))
	p := coded(t, "go @2 r0; go @2 r0; lock l0 1; load r1 c0; store c0 r1; unlock l0 1; jump @2")
	for range 200 {
		trace := played(t, p, anyScript(r, 2, 60))
		var accesses []int
		for at, e := range trace {
			if e.Op == api.OpLoad || e.Op == api.OpStore {
				accesses = append(accesses, at)
			}
		}
		for at := 1; at < len(accesses); at++ {
			if !happens(t, trace, p.Pipes, accesses[at-1], accesses[at]) {
				t.Fatalf("%d does not happen before %d: %v", accesses[at-1], accesses[at], trace)
			}
		}
	}
}

// Whatever the script: the OpGo that begins a task happens before all that it does.
func TestBegunBefore(t *testing.T) {
	r := rand.New(rand.NewSource(155))
	for range 20 {
		for _, p := range programs(t) {
			trace := played(t, p, anyScript(r, 2, 60))
			begun := map[int]int{}
			for at, e := range trace {
				if by, known := begun[e.Task]; e.Task > 1 && (!known || !happens(t, trace, p.Pipes, by, at)) {
					t.Fatalf("%d does not happen behind its OpGo: %v", at, trace)
				}
				if e.Op == api.OpGo {
					begun[e.Value] = at
				}
			}
		}
	}
}
