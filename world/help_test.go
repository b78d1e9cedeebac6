package world_test

import (
	"fmt"
	"slices"
	"strconv"
	"strings"
	"testing"

	"taskmill/api"
	"taskmill/code"
	"taskmill/world"
)

const mostProcs = 16

func fault(code, at int) api.Fault { return api.Fault{Code: code, At: at} }

var none = api.Fault{}

// names are those of the ops that a trace can tell, and of the states of a run.
func names() map[int]string {
	return map[int]string{
		api.OpPrint: "print", api.OpEnd: "end", api.OpGo: "go", api.OpLoad: "load", api.OpStore: "store",
		api.OpSend: "send", api.OpGet: "get", api.OpShut: "shut", api.OpLock: "lock", api.OpUnlock: "unlock",
		api.OpCount: "count", api.OpWait: "wait", api.OpPanic: "panic",
	}
}

func states() []string { return []string{"going", "ended", "panics", "stuck", "full"} }

// coded is a program of these instructions, written as chapter 11 has them, but with `; ` between them.
// It has 3 cells, 2 locks, 2 groups, and pipes that hold 0, 1, 2 and 0.
func coded(t *testing.T, text string) api.Program {
	t.Helper()
	list, f := code.Parse(strings.ReplaceAll(text, "; ", "\n") + "\n")
	if f != none {
		t.Fatalf("%s: %v", text, f)
	}
	p := api.Program{Code: list, Cells: 3, Pipes: []int{0, 1, 2, 0}, Locks: 2, Groups: 2}
	if f := code.Check(p); f != none {
		t.Fatalf("%s: %v", text, f)
	}
	return p
}

// entries is a script: numbers of processors, `.` for a tick, and `0*9` for nine times 0.
func entries(text string) []int {
	var script []int
	for _, word := range strings.Fields(text) {
		entry, times, many := strings.Cut(word, "*")
		n, err := strconv.Atoi(entry)
		if entry == "." {
			n, err = -1, nil
		}
		count := 1
		if many {
			count, _ = strconv.Atoi(times)
		}
		if err != nil {
			panic(word)
		}
		script = append(script, slices.Repeat([]int{n}, count)...)
	}
	return script
}

// traced tells events: task, op's name, Obj and Value, with `; ` between them.
func traced(trace []api.Event) string {
	var told []string
	for _, e := range trace {
		name, known := names()[e.Op]
		if !known {
			name = fmt.Sprint("op ", e.Op)
		}
		told = append(told, fmt.Sprint(e.Task, " ", name, " ", e.Obj, " ", e.Value))
	}
	return strings.Join(told, "; ")
}

// ended tells how a run ended: its state, its steps, now, and the states of its tasks.
func ended(r api.Report) string {
	return fmt.Sprint(states()[r.State], " ", r.Steps, " ", r.Now, " ", r.Tasks)
}

// run is a program, and what comes of it when it is played.
type run struct {
	what   string
	code   string
	procs  int
	script string
	trace  string
	end    string
	cells  string // all are 0, if none are told
}

func askRuns(t *testing.T, runs []run) {
	t.Helper()
	for _, want := range runs {
		got, f := world.Play(coded(t, want.code), want.procs, entries(want.script))
		same(t, want.what+": the fault", f, none)
		same(t, want.what+": the trace", traced(got.Trace), want.trace)
		same(t, want.what+": the end", ended(got), want.end)
		cells := want.cells
		if cells == "" {
			cells = "[0 0 0]"
		}
		same(t, want.what+": the cells", got.Cells, cells)
	}
}

// played is a run of what Play has no fault for.
func played(t *testing.T, p api.Program, procs int, script []int) api.Report {
	t.Helper()
	r, f := world.Play(p, procs, script)
	if f != none {
		t.Fatalf("%v", f)
	}
	return r
}

func told(parts ...any) string { return fmt.Sprintln(parts...) }

// same holds two things against each other as they are told: nil and empty lists are the same.
func same(t *testing.T, what string, got, want any) {
	t.Helper()
	if g, w := fmt.Sprint(got), fmt.Sprint(want); g != w {
		t.Errorf("%s:\n got %.1500s\nwant %.1500s", what, g, w)
	}
}

// bare asks that nothing stands beside a fault.
func bare(t *testing.T, what string, r api.Report) {
	t.Helper()
	same(t, what+": beside the fault", told(r), told(api.Report{}))
}
