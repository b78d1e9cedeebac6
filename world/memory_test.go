package world_test

import (
	"fmt"
	"math/rand"
	"slices"
	"testing"

	"taskmill/api"
	"taskmill/world"
)

// roomy lists have more behind their length, which nobody may read or write.
func roomy[T any](list []T, behind T) (short, whole []T) {
	whole = append(slices.Clone(list), behind, behind, behind)
	return whole[:len(list)], whole
}

// Lists that are handed in are only read, and what lies behind their length is neither read nor written.
func TestListsAreOnlyRead(t *testing.T) {
	r := rand.New(rand.NewSource(41))
	for range 3000 {
		p, procs := anyProgram(r), anyProcs(r)
		script := anyScript(r, procs, r.Intn(60))
		if r.Intn(10) == 0 {
			script = append(script, procs)
		}
		want, wantF := world.Play(p, procs, script)
		var wholeCode []api.Instr
		var wholePipes, wholeScript []int
		p.Code, wholeCode = roomy(p.Code, in(api.OpPanic, 0, 0))
		p.Pipes, wholePipes = roomy(p.Pipes, -5)
		script, wholeScript = roomy(script, -9)
		before := fmt.Sprint(p, wholeCode, wholePipes, wholeScript)
		got, f := world.Play(p, procs, script)
		same(t, "the answer", told(got, f), told(want, wantF))
		same(t, "what was handed in", fmt.Sprint(p, wholeCode, wholePipes, wholeScript), before)
	}
}

// What lies behind a list's length is no instruction, no pipe, and no entry.
func TestBehindIsNothing(t *testing.T) {
	code := []api.Instr{in(api.OpPrint, 0, 0), in(api.OpPrint, 0, 0), in(api.OpPrint, 0, 0)}
	r, f := world.Play(api.Program{Code: code[:1]}, 1, make([]int, 9)[:2])
	same(t, "code", told(traced(r.Trace), ended(r), f), told("1 print 0 0; 1 end 0 0", "ended 2 0 [3]", none))
	r, f = world.Play(spin(), 1, []int{0, 0, 7}[:2])
	same(t, "entries", told(ended(r), f), told("going 2 0 [0]", none))
	_, f = world.Play(api.Program{Code: []api.Instr{in(api.OpShut, 1, 0)}, Pipes: []int{0, 0}[:1]}, 1, nil)
	same(t, "pipes", f, fault(api.ErrForm, 0))
}

// nil and empty lists are the same.
func TestEmptyLists(t *testing.T) {
	for _, p := range []api.Program{{}, {Code: []api.Instr{}, Pipes: []int{}}} {
		for _, script := range [][]int{nil, {}} {
			r, f := world.Play(p, 1, script)
			same(t, "nothing", told(r, f), told(api.Report{Tasks: []int{0}}, none))
		}
	}
}

// spoil writes over all the memory of a list, also behind its length.
func spoil[T any](list []T, with T) {
	whole := list[:cap(list)]
	for i := range whole {
		whole[i] = with
	}
}

// What is answered is new memory, no two lists of one answer share any, and none is kept.
func TestAnswersAreNewMemory(t *testing.T) {
	r := rand.New(rand.NewSource(42))
	for range 2000 {
		p, procs := anyProgram(r), anyProcs(r)
		script := anyScript(r, procs, r.Intn(60))
		given := fmt.Sprint(p, script)
		ahead := played(t, p, procs, script)
		want := fmt.Sprint(ahead)
		one := played(t, p, procs, script)
		spoil(one.Trace, api.Event{Task: 99, Op: 99})
		same(t, "tasks and cells beside a spoilt trace", told(one.Tasks, one.Cells), told(ahead.Tasks, ahead.Cells))
		spoil(one.Tasks, 99)
		same(t, "cells beside spoilt tasks", told(one.Cells), told(ahead.Cells))
		spoil(one.Cells, 99)
		same(t, "the answer ahead", ahead, want)
		same(t, "what was handed in", fmt.Sprint(p, script), given)
		other := played(t, p, procs, script)
		same(t, "the next answer", other, want)
		spoil(other.Cells, 98)
		same(t, "tasks and trace beside spoilt cells", told(other.Tasks, other.Trace), told(ahead.Tasks, ahead.Trace))
		spoil(p.Code, in(0, 0, 0))
		spoil(p.Pipes, 99)
		spoil(script, 99)
		same(t, "the answer ahead, when what was handed in is changed", ahead, want)
	}
}
