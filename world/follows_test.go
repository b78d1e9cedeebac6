package world_test

import (
	"math/rand"
	"slices"
	"testing"

	"taskmill/api"
	"taskmill/world"
)

// The chapter's example, and those of the document that are of runs.
func TestExamples(t *testing.T) {
	p := api.Program{Code: []api.Instr{in(api.OpGet, 0, 0)}, Pipes: []int{0}}
	r, f := world.Play(p, 1, []int{0})
	same(t, "one step, and the run is Stuck", told(r, f), told(api.Report{State: api.Stuck, Steps: 1, Tasks: []int{1}}, none))
	askRuns(t, []run{
		{"a text that is played", "set r0 5; print r0; end", 1, "0*3", "1 print 0 5; 1 end 0 0", "ended 3 0 [3]", ""},
		{"a task that stores and sends, and one that gets and loads", "go @5 r0; set r1 4; store c0 r1; send p1 r1; get r2 p2; get r1 p1; load r2 c0", 2, "0*4 1*2",
			"1 go 0 2; 1 store 0 4; 1 send 1 4; 2 get 1 4; 2 load 0 4", "going 6 0 [0 0]", "[4 0 0]"},
	})
}

// What follows: the first entries' Trace is the beginning of all entries'.
func TestTraceGrows(t *testing.T) {
	r := rand.New(rand.NewSource(31))
	for range 1500 {
		p, procs := anyProgram(r), anyProcs(r)
		script := anyScript(r, procs, r.Intn(60))
		whole := played(t, p, procs, script)
		before := 0
		for many := range len(script) + 1 {
			part := played(t, p, procs, script[:many])
			if n := len(part.Trace); n < before || n > len(whole.Trace) || !slices.Equal(part.Trace, whole.Trace[:n]) {
				t.Fatalf("%d entries: %v is no beginning of %v", many, traced(part.Trace), traced(whole.Trace))
			}
			before = len(part.Trace)
			if want := min(many, whole.Steps); part.Steps != want {
				t.Fatalf("%d entries: %d steps, want %d", many, part.Steps, want)
			}
			if many >= whole.Steps {
				same(t, "behind the end", told(part), told(whole))
			}
		}
	}
}

// queue is what was sent to a pipe and not got yet, by the trace alone.
type queue struct {
	values []int
	shut   bool
}

// What follows: sends on a pipe, and gets, are those of a queue that is first in, first out, whatever the script.
// A queue holds no more than its pipe, but for a value that is got by the next event.
func TestFirstInFirstOut(t *testing.T) {
	r := rand.New(rand.NewSource(32))
	gets, empties := 0, 0
	for range 20000 {
		p, procs := anyProgram(r), anyProcs(r)
		report := played(t, p, procs, anyScript(r, procs, r.Intn(200)))
		queues := make([]queue, len(p.Pipes))
		for at, e := range report.Trace {
			if e.Op != api.OpSend && e.Op != api.OpGet && e.Op != api.OpShut {
				continue
			}
			q := &queues[e.Obj]
			switch {
			case e.Op == api.OpShut:
				q.shut = true
			case e.Op == api.OpSend:
				q.values = append(q.values, e.Value)
				brought := len(q.values) == p.Pipes[e.Obj]+1 && at+1 < len(report.Trace) && report.Trace[at+1].Op == api.OpGet && report.Trace[at+1].Obj == e.Obj
				if q.shut || len(q.values) > p.Pipes[e.Obj] && !brought {
					t.Fatalf("sent too much at %d: %v", at, traced(report.Trace))
				}
			case len(q.values) > 0:
				gets++
				if q.values[0] != e.Value {
					t.Fatalf("got another value at %d: %v", at, traced(report.Trace))
				}
				q.values = q.values[1:]
			default:
				empties++
				if !q.shut || e.Value != 0 {
					t.Fatalf("got from an empty pipe at %d: %v", at, traced(report.Trace))
				}
			}
		}
	}
	if gets < 1000 || empties < 100 {
		t.Errorf("%d gets, %d of nothing", gets, empties)
	}
}

// What follows: a run is Stuck just where nobody can go on, and nobody ever will.
func TestStuckJustSo(t *testing.T) {
	r := rand.New(rand.NewSource(33))
	stuck, going := 0, 0
	for range 10000 {
		p, procs := anyProgram(r), anyProcs(r)
		script := anyScript(r, procs, r.Intn(80))
		report := played(t, p, procs, script)
		hopes := slices.Contains(report.Tasks, 0) || slices.Contains(report.Tasks, 2)
		if report.State == api.Going && !hopes || report.State == api.Stuck && hopes {
			t.Fatalf("state %d with tasks %v", report.State, report.Tasks)
		}
		if report.State == api.Stuck {
			stuck++
			more := slices.Concat(script, anyScript(r, procs, 50))
			same(t, "nobody ever will", told(played(t, p, procs, more)), told(report))
		}
		if report.State == api.Going {
			going++
		}
	}
	if stuck < 500 || going < 500 {
		t.Errorf("%d were stuck, %d going", stuck, going)
	}
}

// Where a run is not Stuck and somebody can go on, one of the processors goes on with somebody:
// of instructions that all are to be seen in a report, one is done by one step of each.
func TestSomebodyGoesOn(t *testing.T) {
	r := rand.New(rand.NewSource(34))
	going := 0
	for range 10000 {
		p, procs := anyProgram(r), anyProcs(r)
		for at, i := range p.Code {
			if i.Op < api.OpPrint || i.Op == api.OpYield || i.Op == api.OpSleep {
				p.Code[at] = in(api.OpPrint, 7, 0)
			}
		}
		script := anyScript(r, procs, r.Intn(20))
		report := played(t, p, procs, script)
		if report.State != api.Going {
			continue
		}
		going++
		for proc := range procs {
			script = append(script, proc)
		}
		then := played(t, p, procs, script)
		if then.State == api.Going && len(then.Trace) == len(report.Trace) && slices.Equal(then.Tasks, report.Tasks) {
			t.Fatalf("%v by %v: nothing has happened since %v", p, script, report)
		}
	}
	if going < 500 {
		t.Errorf("%d were going", going)
	}
}
