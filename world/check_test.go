package world_test

import (
	"math"
	"slices"
	"testing"

	"taskmill/api"
	"taskmill/code"
	"taskmill/world"
)

// asked is what Play is given, and the fault that it answers.
type asked struct {
	what   string
	p      api.Program
	procs  int
	script []int
	want   api.Fault
}

func in(op, a, b int) api.Instr { return api.Instr{Op: op, A: a, B: b} }

// spin is a program that never ends.
func spin() api.Program { return api.Program{Code: []api.Instr{in(api.OpJump, 0, 0)}} }

// wrongProgram is one of which chapter 11's Check says ErrForm at 1.
func wrongProgram() api.Program {
	return api.Program{Code: []api.Instr{in(api.OpEnd, 0, 0), in(api.OpJump, 2, 0)}}
}

// many is a script of so many entries, all the same, but for one at a place.
func many(count, entry, at, other int) []int {
	script := slices.Repeat([]int{entry}, count)
	script[at] = other
	return script
}

func askFaults(t *testing.T, list []asked) {
	t.Helper()
	for _, a := range list {
		r, f := world.Play(a.p, a.procs, a.script)
		same(t, a.what, f, a.want)
		if f != none {
			bare(t, a.what, r)
		}
	}
}

// P12.1: what Check says of the program.
func TestProgramFaults(t *testing.T) {
	askFaults(t, []asked{
		{"too much code", api.Program{Code: make([]api.Instr, 1001)}, 1, nil, fault(api.ErrMany, 0)},
		{"too many pipes", api.Program{Pipes: make([]int, 21)}, 1, nil, fault(api.ErrMany, 0)},
		{"cells", api.Program{Cells: 21}, 1, nil, fault(api.ErrRange, 0)},
		{"cells below 0", api.Program{Cells: math.MinInt}, 1, nil, fault(api.ErrRange, 0)},
		{"locks", api.Program{Locks: -1}, 1, nil, fault(api.ErrRange, 0)},
		{"groups", api.Program{Groups: math.MaxInt}, 1, nil, fault(api.ErrRange, 0)},
		{"a pipe", api.Program{Pipes: []int{100, 101}}, 1, nil, fault(api.ErrSize, 1)},
		{"no op", api.Program{Code: []api.Instr{in(api.OpEnd, 0, 0), in(0, 0, 0)}}, 1, nil, fault(api.ErrKind, 1)},
		{"an argument", wrongProgram(), 1, nil, fault(api.ErrForm, 1)},
		{"no such pipe", api.Program{Code: []api.Instr{in(api.OpSend, 0, 0)}}, 1, nil, fault(api.ErrForm, 0)},
		{"a wrong instruction that is never reached", wrongProgram(), 1, []int{0, 0, 0}, fault(api.ErrForm, 1)},
		{"as much as may be", api.Program{Code: slices.Repeat([]api.Instr{in(api.OpEnd, 0, 0)}, 1000), Pipes: slices.Repeat([]int{100}, 20), Cells: 20, Locks: 20, Groups: 20}, 16, nil, none},
	})
	for _, w := range []api.Program{wrongProgram(), {Cells: 21}, {Pipes: []int{-1}}} {
		_, f := world.Play(w, 1, nil)
		same(t, "what Check says", f, code.Check(w))
	}
}

// P12.1: procs are from 1 to 16.
func TestProcsFaults(t *testing.T) {
	wrong := []int{-1, 0, 17, 18, -16, math.MinInt, math.MaxInt, 1<<32 + 1}
	for _, procs := range wrong {
		askFaults(t, []asked{
			{"without entries", spin(), procs, nil, fault(api.ErrRange, -1)},
			{"with one", spin(), procs, []int{0}, fault(api.ErrRange, -1)},
			{"of a program as of nothing", api.Program{}, procs, nil, fault(api.ErrRange, -1)},
		})
	}
	for procs := 1; procs <= mostProcs; procs++ {
		askFaults(t, []asked{
			{"right procs", spin(), procs, []int{0}, none},
			{"the last one", spin(), procs, []int{procs - 1}, none},
			{"one behind the last one", spin(), procs, []int{procs}, fault(api.ErrRange, 0)},
		})
	}
}

// P12.1: the script has at most MaxOps entries.
func TestScriptTooLong(t *testing.T) {
	askFaults(t, []asked{
		{"none", spin(), 1, nil, none},
		{"an empty one", spin(), 1, []int{}, none},
		{"MaxOps", spin(), 1, make([]int, api.MaxOps), none},
		{"one more", spin(), 1, make([]int, api.MaxOps+1), fault(api.ErrMany, -1)},
		{"many more", spin(), 1, make([]int, 3*api.MaxOps), fault(api.ErrMany, -1)},
		{"one more, though the run ends at once", api.Program{}, 1, make([]int, api.MaxOps+1), fault(api.ErrMany, -1)},
	})
	r, _ := world.Play(spin(), 1, make([]int, api.MaxOps))
	same(t, "all of MaxOps are done", ended(r), "going 5000 0 [0]")
	r, _ = world.Play(spin(), 1, slices.Repeat([]int{-1}, api.MaxOps))
	same(t, "all ticks of MaxOps are done", ended(r), "going 5000 5000 [0]")
	r, _ = world.Play(spin(), 1, nil)
	same(t, "none are done", ended(r), "going 0 0 [0]")
}

// P12.1: entries are from -1 to procs - 1.
func TestEntryFaults(t *testing.T) {
	for _, procs := range []int{1, 2, 16} {
		for _, wrong := range []int{-2, procs, procs + 1, math.MinInt, math.MaxInt, -1 << 32} {
			askFaults(t, []asked{
				{"the only one", spin(), procs, []int{wrong}, fault(api.ErrRange, 0)},
				{"the first one", spin(), procs, many(9, 0, 0, wrong), fault(api.ErrRange, 0)},
				{"the last one", spin(), procs, many(9, 0, 8, wrong), fault(api.ErrRange, 8)},
				{"the last one of MaxOps", spin(), procs, many(api.MaxOps, -1, api.MaxOps-1, wrong), fault(api.ErrRange, api.MaxOps-1)},
				{"the first one of several", spin(), procs, []int{0, -1, wrong, 0, -2, wrong}, fault(api.ErrRange, 2)},
				{"one behind the run's end", api.Program{}, procs, []int{0, 0, wrong}, fault(api.ErrRange, 2)},
			})
		}
		for _, right := range []int{-1, 0, procs - 1} {
			askFaults(t, []asked{
				{"a right first one", spin(), procs, many(9, 0, 0, right), none},
				{"a right last one", spin(), procs, many(9, 0, 8, right), none},
			})
		}
	}
}

// P12.1: the first fault that applies is answered, in the order in which they are named.
func TestFaultsInOrder(t *testing.T) {
	long, wrongEntry := make([]int, api.MaxOps+1), []int{0, 0, 99}
	longAndWrong := many(api.MaxOps+1, 0, 2, 99)
	askFaults(t, []asked{
		{"the program ahead of procs", wrongProgram(), 0, nil, fault(api.ErrForm, 1)},
		{"the program ahead of the length", wrongProgram(), 1, long, fault(api.ErrForm, 1)},
		{"the program ahead of entries", wrongProgram(), 1, wrongEntry, fault(api.ErrForm, 1)},
		{"the program ahead of all", wrongProgram(), 17, longAndWrong, fault(api.ErrForm, 1)},
		{"procs ahead of the length", spin(), 17, long, fault(api.ErrRange, -1)},
		{"procs ahead of entries", spin(), -1, wrongEntry, fault(api.ErrRange, -1)},
		{"procs ahead of both", spin(), 0, longAndWrong, fault(api.ErrRange, -1)},
		{"the length ahead of entries", spin(), 1, longAndWrong, fault(api.ErrMany, -1)},
	})
}
