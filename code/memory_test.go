package code_test

import (
	"fmt"
	"slices"
	"testing"

	"taskmill/api"
	"taskmill/code"
)

// roomy lists have more behind their length, which nobody may read or write.
func roomy[T any](list []T, behind T) (short, whole []T) {
	whole = append(slices.Clone(list), behind, behind, behind)
	return whole[:len(list)], whole
}

// Lists that are handed in are only read, and what lies behind their length is neither read nor written.
func TestListsAreOnlyRead(t *testing.T) {
	for _, w := range slices.Concat(rightPrograms(), wrongCode()) {
		p := w.p
		var wholeCode []api.Instr
		var wholePipes []int
		p.Code, wholeCode = roomy(p.Code, in(99, 99, 99))
		p.Pipes, wholePipes = roomy(p.Pipes, -5)
		before := fmt.Sprint(p, wholeCode, wholePipes)
		regs := [8]int{1, 2, 3}
		same(t, w.what+": check", code.Check(p), w.want)
		pc, then, done, f := code.Run(p, 0, regs, 100)
		want, wantThen, wantDone, _ := code.Run(w.p, 0, regs, 100)
		same(t, w.what+": run", told(pc, then, done, f), told(want, wantThen, wantDone, w.want))
		text, f := code.Text(p)
		wantText, _ := code.Text(w.p)
		same(t, w.what+": text", told(text, f), told(wantText, w.want))
		same(t, w.what+": what was handed in", fmt.Sprint(p, wholeCode, wholePipes), before)
		same(t, w.what+": the registers", regs, [8]int{1, 2, 3})
	}
}

// What lies behind a list's length is no instruction, and no pipe.
func TestBehindIsNothing(t *testing.T) {
	whole := []api.Instr{in(api.OpSet, 0, 1), in(api.OpSet, 1, 1), in(api.OpSet, 2, 1)}
	short := api.Program{Code: whole[:1], Pipes: []int{0, 0}[:1]}
	pc, regs, done, f := code.Run(short, 0, noRegs, 9)
	same(t, "run", told(pc, regs, done, f), told(1, [8]int{1}, 1, none))
	short.Code = []api.Instr{in(api.OpJump, 1, 0), in(api.OpEnd, 0, 0)}[:1]
	same(t, "an instruction behind", code.Check(short), fault(api.ErrForm, 0))
	short.Code = []api.Instr{in(api.OpShut, 1, 0)}
	same(t, "a pipe behind", code.Check(short), fault(api.ErrForm, 0))
}

// What is answered is new memory: no two answers share any, and none is kept.
func TestAnswersAreNewMemory(t *testing.T) {
	texts := []string{"", "end\n", "set r0 5\nsend p1 r0\n", "jump @0\njump @1\njump @2\njump @3\njump @4\n", "end\nx\n", "end"}
	for _, text := range texts {
		ahead, f := code.Parse(text)
		want := told(ahead, f)
		spoilt, _ := code.Parse(text)
		spoilt = spoilt[:cap(spoilt)]
		for i := range spoilt {
			spoilt[i] = in(99, 99, 99)
		}
		same(t, text+": the answer ahead", told(ahead, f), want)
		next, f := code.Parse(text)
		same(t, text+": the next answer", told(next, f), want)
	}
	list, _ := code.Parse("set r0 5\nend\n")
	p := api.Program{Code: list}
	text, _ := code.Text(p)
	list[0] = in(api.OpYield, 0, 0)
	same(t, "a text stays as it was", text, "set r0 5\nend\n")
	text, _ = code.Text(p)
	same(t, "the next text", text, "yield\nend\n")
}

// What is answered hangs on the arguments alone, not on what was asked ahead.
func TestNothingIsKept(t *testing.T) {
	for range 3 {
		list, f := code.Parse("wait g1\nlock l0 1\n")
		same(t, "parse", told(list, f), told("[{20 1 0} {17 0 1}]", none))
		_, f = code.Parse("wait\n")
		same(t, "a fault", f, fault(api.ErrText, 0))
		pc, regs, done, f := code.Run(countDown(2), 0, noRegs, 9)
		same(t, "run", told(pc, regs, done, f), told(5, [8]int{0, -1}, 7, none))
	}
}
