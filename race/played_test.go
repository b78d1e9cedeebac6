package race_test

import (
	"math/rand"
	"strings"
	"testing"

	"taskmill/api"
	"taskmill/code"
	"taskmill/race"
	"taskmill/world"
)

// coded is a program of these instructions, written as chapter 11 has them, but with `; ` between them.
// It has 3 cells, 2 locks, 2 groups, and pipes that hold 0, 1 and 2.
func coded(t *testing.T, text string) api.Program {
	t.Helper()
	list, f := code.Parse(strings.ReplaceAll(text, "; ", "\n") + "\n")
	if f != none {
		t.Fatalf("%s: %v", text, f)
	}
	return api.Program{Code: list, Cells: 3, Pipes: []int{0, 1, 2}, Locks: 2, Groups: 2}
}

// neverRaces are programs in which what is stored is handed on, or guarded, whatever the script.
func neverRaces() map[string]string {
	return map[string]string{
		"a pipe that holds 0":       "go @4 r0; get r1 p0; load r1 c0; end; set r1 7; store c0 r1; send p0 r1; end",
		"a pipe that holds 1":       "go @4 r0; get r1 p1; load r1 c0; end; set r1 7; store c0 r1; send p1 r1; end",
		"who gets from a pipe of 0": "go @4 r0; send p0 r1; load r1 c0; end; set r1 7; store c0 r1; get r1 p0; end",
		"a pipe that is closed":     "go @4 r0; get r1 p1; load r1 c0; end; set r1 7; store c0 r1; shut p1; end",
		"room in a pipe of 1":       "go @5 r0; send p1 r1; send p1 r1; load r1 c0; end; set r1 7; store c0 r1; get r1 p1; end",
		"a group":                   "set r1 1; count g0 r1; go @6 r0; wait g0; load r1 c0; end; store c0 r1; store c0 r0; set r1 -1; count g0 r1; end",
		"a task that begins":        "set r1 3; store c0 r1; go @4 r1; end; load r2 c0; store c0 r2; end",
		"a lock, by writers":        "set r3 1; go @3 r0; go @3 r0; lock l0 1; load r1 c0; set r3 1; add r1 r3; store c0 r1; unlock l0 1; jump @3",
		"a lock, by a writer and readers": "go @6 r0; go @6 r0; lock l1 1; store c0 r0; unlock l1 1; jump @2; " +
			"lock l1 0; load r1 c0; unlock l1 0; jump @6",
		"a turn that is handed round": "go @6 r0; store c0 r1; send p0 r1; get r1 p0; load r1 c0; jump @1; get r1 p0; load r2 c0; add r2 r1; store c0 r2; send p0 r2; jump @6",
		"cells of their own":          "go @3 r0; store c0 r0; jump @1; store c1 r0; load r1 c1; jump @3",
		"two who load":                "go @2 r0; go @2 r0; load r1 c0; load r1 c1; jump @2",
	}
}

// mayRace are programs whose accesses race, if both come: what tasks 1 and 2 store or load, and nobody hands on.
func mayRace() map[string]string {
	return map[string]string{
		"nothing between them":          "go @3 r0; load r1 c0; end; set r1 7; store c0 r1; end",
		"two who store":                 "go @3 r0; store c0 r0; end; set r1 7; store c0 r1; end",
		"who sends to a pipe of 2":      "go @4 r0; send p2 r1; load r1 c0; end; store c0 r0; get r1 p2; end",
		"a lock, by readers alone":      "go @5 r0; lock l0 0; load r1 c0; unlock l0 0; end; lock l0 0; store c0 r0; unlock l0 0; end",
		"two locks":                     "go @5 r0; lock l0 1; load r1 c0; unlock l0 1; end; lock l1 1; store c0 r0; unlock l1 1; end",
		"sent ahead of the store":       "go @4 r0; get r1 p1; load r1 c0; end; send p1 r0; store c0 r0; end",
		"loaded ahead of the get":       "go @4 r0; load r1 c0; get r1 p1; end; store c0 r0; send p1 r0; end",
		"stored when the lock was left": "go @5 r0; lock l0 1; unlock l0 1; store c0 r0; end; lock l0 1; unlock l0 1; store c0 r0; end",
	}
}

func anyScript(r *rand.Rand, procs, many int) []int {
	script := make([]int, many)
	for at := range script {
		script[at] = r.Intn(procs)
		if r.Intn(10) == 0 {
			script[at] = -1
		}
	}
	return script
}

// played is the trace of a run by two processors.
func played(t *testing.T, p api.Program, script []int) []api.Event {
	t.Helper()
	r, f := world.Play(p, 2, script)
	if f != none {
		t.Fatalf("%v", f)
	}
	return r.Trace
}

// accessesBy are how many accesses a task has in a trace.
func accessesBy(trace []api.Event, task int) int {
	many := 0
	for _, e := range trace {
		if e.Task == task && isAccess(e) {
			many++
		}
	}
	return many
}

// What is handed on, or guarded, does not race, whatever the script.
func TestPlayedWithoutRaces(t *testing.T) {
	r := rand.New(rand.NewSource(151))
	for what, text := range neverRaces() {
		p, both := coded(t, text), 0
		for range 200 {
			trace := played(t, p, anyScript(r, 2, 20+r.Intn(60)))
			same(t, what+": all", allTold(t, trace, p.Pipes), "")
			askFirst(t, what, trace, p.Pipes, -1)
			if accessesBy(trace, 1) > 0 && accessesBy(trace, 2) > 0 {
				both++
			}
		}
		if both < 30 {
			t.Errorf("%s: %d of both", what, both)
		}
	}
}

// What nobody hands on races, whatever the script, as soon as both have come.
func TestPlayedWithRaces(t *testing.T) {
	r := rand.New(rand.NewSource(152))
	for what, text := range mayRace() {
		p, both := coded(t, text), 0
		for range 300 {
			trace := played(t, p, anyScript(r, 2, 30))
			if accessesBy(trace, 1) == 0 || accessesBy(trace, 2) == 0 {
				continue
			}
			both++
			list, f := race.All(trace, p.Pipes)
			same(t, what+": one race", told(len(list), f), told(1, none))
			one, two := trace[list[0][0]], trace[list[0][1]]
			same(t, what+": of both tasks", told(one.Task+two.Task, isAccess(one), isAccess(two)), told(3, true, true))
			askFirst(t, what, trace, p.Pipes, list[0][1])
		}
		if both < 10 {
			t.Errorf("%s: %d of both", what, both)
		}
	}
}

// What package world tells is answered as the document's words say, whatever is played.
func TestPlayed(t *testing.T) {
	r := rand.New(rand.NewSource(153))
	for _, texts := range []map[string]string{neverRaces(), mayRace()} {
		for _, text := range texts {
			p := coded(t, text)
			for range 20 {
				askAll(t, played(t, p, anyScript(r, 2, r.Intn(70))), p.Pipes)
			}
		}
	}
}

// What is done while a lock is held, is guarded by it, whatever the script.
func TestPlayedGuards(t *testing.T) {
	r := rand.New(rand.NewSource(154))
	for text, want := range map[string]string{
		"go @1 r0; lock l0 1; load r1 c0; store c0 r1; unlock l0 1; jump @1":                                   "[[0]]",
		"go @1 r0; lock l0 0; load r1 c1; unlock l0 0; jump @1":                                                "[[] [0]]",
		"go @1 r0; lock l1 1; lock l0 0; store c2 r0; unlock l1 1; load r1 c1; unlock l0 0; jump @1":           "[[] [0] [0 1]]",
		"go @1 r0; lock l0 1; store c1 r0; unlock l0 1; load r1 c0; jump @1":                                   "[[] [0]]",
		"go @5 r0; lock l0 1; store c1 r0; unlock l0 1; jump @1; lock l1 1; store c1 r0; unlock l1 1; jump @5": "[[] []]",
	} {
		p, asked := coded(t, text), 0
		for range 100 {
			trace := played(t, p, anyScript(r, 2, 60))
			if accessesBy(trace, 1) < 2 || accessesBy(trace, 2) < 2 {
				continue
			}
			asked++
			same(t, text, guardsTold(t, trace, p.Pipes), want)
		}
		if asked < 20 {
			t.Errorf("%s: %d were asked", text, asked)
		}
	}
}

// The document's example: a task that stores and sends, and one that gets and loads: there is no race; without the pipe there is one.
func TestPlayedExample(t *testing.T) {
	sends := coded(t, "go @5 r0; set r1 4; store c0 r1; send p1 r1; get r2 p2; get r1 p1; load r2 c0")
	trace := played(t, sends, []int{0, 0, 0, 0, 1, 1})
	same(t, "trace", trace, events("1 go 0 2; 1 store 0 4; 1 send 1 4; 2 get 1 4; 2 load 0 4"))
	same(t, "with the pipe", allTold(t, trace, sends.Pipes), "")
	apart := coded(t, "go @3 r0; set r1 4; store c0 r1; load r2 c0")
	trace = played(t, apart, []int{0, 0, 0, 1})
	same(t, "trace", trace, events("1 go 0 2; 1 store 0 4; 2 load 0 4"))
	same(t, "without", allTold(t, trace, apart.Pipes), "1-2")
}
