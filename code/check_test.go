package code_test

import (
	"math"
	"slices"
	"testing"

	"taskmill/api"
	"taskmill/code"
)

// aProgram is a program, and what Check says of it.
type aProgram struct {
	what string
	p    api.Program
	want api.Fault
}

// rightPrograms are such that nothing is wrong with.
func rightPrograms() []aProgram {
	return []aProgram{
		{"as of nothing", nothing, none},
		{"of empty lists", api.Program{Code: []api.Instr{}, Pipes: []int{}}, none},
		{"one instruction", api.Program{Code: ends(1)}, none},
		{"one instruction less than may be", api.Program{Code: ends(mostCode - 1)}, none},
		{"1000 instructions", api.Program{Code: ends(mostCode)}, none},
		{"20 of each, without code", rich(mostEach), none},
		{"all that can be", rich(mostEach, ends(mostCode)...), none},
		{"20 cells", api.Program{Cells: mostEach}, none},
		{"20 locks", api.Program{Locks: mostEach}, none},
		{"20 groups", api.Program{Groups: mostEach}, none},
		{"20 pipes", api.Program{Pipes: make([]int, mostEach)}, none},
		{"a pipe of 0", api.Program{Pipes: []int{0}}, none},
		{"a pipe of 100", api.Program{Pipes: []int{mostHolds}}, none},
		{"20 pipes of 100", api.Program{Pipes: slices.Repeat([]int{mostHolds}, mostEach)}, none},
		{"a task that counts down", countDown(5), none},
	}
}

// wrongPrograms are such that something is wrong with, alone and behind what is wrong, too.
func wrongPrograms() []aProgram {
	return slices.Concat(tooMany(), notInRange(), notInSize(), wrongCode())
}

func tooMany() []aProgram {
	many := fault(api.ErrMany, 0)
	pipes := make([]int, mostEach+1)
	wrongPipes := slices.Repeat([]int{-1}, mostEach+1)
	return []aProgram{
		{"an instruction too many", api.Program{Code: ends(mostCode + 1)}, many},
		{"many instructions too many", api.Program{Code: ends(5 * mostCode)}, many},
		{"a pipe too many", api.Program{Pipes: pipes}, many},
		{"many pipes too many", api.Program{Pipes: make([]int, mostCode)}, many},
		{"both too many", api.Program{Code: ends(mostCode + 1), Pipes: pipes}, many},
		{"too many, ahead of Cells", api.Program{Code: ends(mostCode + 1), Cells: -1}, many},
		{"too many pipes, ahead of Locks", api.Program{Pipes: pipes, Locks: mostEach + 1}, many},
		{"too many pipes, ahead of their sizes", api.Program{Pipes: wrongPipes}, many},
		{"too many, ahead of a pipe's size", api.Program{Code: ends(mostCode + 1), Pipes: []int{-1}}, many},
		{"too many, ahead of an Op", api.Program{Code: make([]api.Instr, mostCode+1)}, many},
		{"too many pipes, ahead of an Op", api.Program{Code: make([]api.Instr, 1), Pipes: pipes}, many},
		{"too many pipes, ahead of an argument", api.Program{Code: []api.Instr{in(api.OpEnd, 1, 0)}, Pipes: pipes}, many},
	}
}

func notInRange() []aProgram {
	var list []aProgram
	add := func(what string, p api.Program) { list = append(list, aProgram{what, p, fault(api.ErrRange, 0)}) }
	for _, n := range append(far(), mostEach+1, mostEach+2) {
		add(told("Cells of", n), api.Program{Cells: n})
		add(told("Locks of", n), api.Program{Locks: n})
		add(told("Groups of", n), api.Program{Groups: n})
		add(told("all of", n), api.Program{Cells: n, Locks: n, Groups: n})
		for _, other := range []int{0, 1, mostEach} {
			add(told("Cells alone of", n), api.Program{Cells: n, Locks: other, Groups: other})
			add(told("Locks alone of", n), api.Program{Cells: other, Locks: n, Groups: other})
			add(told("Groups alone of", n), api.Program{Cells: other, Locks: other, Groups: n})
		}
		add(told("ahead of a pipe's size, Cells of", n), api.Program{Cells: n, Pipes: []int{0, -1}})
		add(told("ahead of a pipe's size, Groups of", n), api.Program{Groups: n, Pipes: []int{0, mostHolds + 1}})
		add(told("ahead of an Op, Locks of", n), api.Program{Locks: n, Code: []api.Instr{{Op: api.OpEnd}, {}}})
		add(told("ahead of an argument, Cells of", n), api.Program{Cells: n, Code: []api.Instr{{Op: api.OpEnd}, in(api.OpLoad, 8, 0)}})
	}
	return list
}

func notInSize() []aProgram {
	var list []aProgram
	add := func(what string, at int, p api.Program) {
		list = append(list, aProgram{what, p, fault(api.ErrSize, at)})
	}
	for _, n := range append(far(), mostHolds+1, mostHolds+2) {
		add(told("the only pipe of", n), 0, api.Program{Pipes: []int{n}})
		for _, at := range []int{0, 1, 10, mostEach - 1} {
			pipes := slices.Repeat([]int{mostHolds, 0}, mostEach/2)
			pipes[at] = n
			add(told("at", at, "a pipe of", n), at, api.Program{Pipes: pipes})
			add(told("ahead of an Op, at", at, "a pipe of", n), at, api.Program{Pipes: pipes, Code: []api.Instr{{Op: api.OpEnd}, {}}})
			add(told("ahead of an argument, at", at, "a pipe of", n), at, api.Program{Pipes: pipes, Code: []api.Instr{in(api.OpSend, mostEach, 0)}})
			more := append(pipes[:at+1:at+1], slices.Repeat([]int{-1}, mostEach-at-1)...)
			add(told("and others behind, at", at, "a pipe of", n), at, api.Program{Pipes: more})
		}
	}
	return list
}

// wrongCode are programs with instructions that are wrong: the first is told, whichever of both it is.
func wrongCode() []aProgram {
	noOp, noForm := in(23, 0, 0), in(api.OpEnd, 0, 1)
	var list []aProgram
	add := func(what string, kind, at int, code ...api.Instr) {
		list = append(list, aProgram{what, rich(1, code...), fault(kind, at)})
	}
	for _, at := range []int{0, 1, mostCode / 2, mostCode - 1} {
		ahead, behind := ends(at), ends(mostCode-1-at)
		add(told("no op at", at), api.ErrKind, at, slices.Concat(ahead, []api.Instr{noOp}, behind)...)
		add(told("no form at", at), api.ErrForm, at, slices.Concat(ahead, []api.Instr{noForm}, behind)...)
	}
	add("no op, twice", api.ErrKind, 1, in(api.OpEnd, 0, 0), noOp, noOp)
	add("no form, twice", api.ErrForm, 1, in(api.OpEnd, 0, 0), noForm, noForm)
	add("no op, ahead of no form", api.ErrKind, 1, in(api.OpEnd, 0, 0), noOp, noForm)
	add("no form, ahead of no op", api.ErrForm, 1, in(api.OpEnd, 0, 0), noForm, noOp)
	add("no op, whose arguments are far", api.ErrKind, 0, in(0, math.MaxInt, math.MinInt))
	add("no op, whose arguments are a register and a number", api.ErrKind, 0, in(23, 1, 5))
	add("no op below 0", api.ErrKind, 2, in(api.OpEnd, 0, 0), in(api.OpEnd, 0, 0), in(-1, 0, 0))
	return list
}

// P11.1: nothing wrong, each fault, its place, and the order where several apply.
func TestCheck(t *testing.T) {
	for _, w := range slices.Concat(rightPrograms(), wrongPrograms()) {
		same(t, w.what, code.Check(w.p), w.want)
	}
}

// P11.1: Cells, Locks and Groups of -1, 0, 20 and 21.
func TestCheckEdges(t *testing.T) {
	for n, want := range map[int]api.Fault{-1: fault(api.ErrRange, 0), 0: none, 20: none, 21: fault(api.ErrRange, 0)} {
		same(t, told("cells", n), code.Check(api.Program{Cells: n}), want)
		same(t, told("locks", n), code.Check(api.Program{Locks: n}), want)
		same(t, told("groups", n), code.Check(api.Program{Groups: n}), want)
	}
	for n, want := range map[int]api.Fault{-1: fault(api.ErrSize, 0), 0: none, 100: none, 101: fault(api.ErrSize, 0)} {
		same(t, told("pipe", n), code.Check(api.Program{Pipes: []int{n}}), want)
	}
	same(t, "1000 instructions", code.Check(api.Program{Code: ends(1000)}), none)
	same(t, "1001 instructions", code.Check(api.Program{Code: ends(1001)}), fault(api.ErrMany, 0))
	same(t, "20 pipes", code.Check(api.Program{Pipes: make([]int, 20)}), none)
	same(t, "21 pipes", code.Check(api.Program{Pipes: make([]int, 21)}), fault(api.ErrMany, 0))
}

// P11.1: an Op that is none, also where A and B are of no kind.
func TestCheckOps(t *testing.T) {
	for _, r := range table() {
		same(t, r.name, code.Check(rich(1, in(r.op, 0, 0))), none)
	}
	for _, op := range noOps() {
		for _, n := range []int{0, 1, -1, math.MaxInt} {
			same(t, told("op", op), code.Check(rich(mostEach, ends(1)[0], in(op, n, -n))), fault(api.ErrKind, 1))
		}
	}
}

// edges are numbers of a kind, and such that are not, where there are so many instructions and so many of each thing.
func edges(kind byte, instructions, each int) (right, wrong []int) {
	last := map[byte]int{'r': 7, 'c': instructions - 1, 'm': each - 1, 'p': each - 1, 'l': each - 1, 'g': each - 1, 'k': 1, '-': 0}
	if kind == 'n' {
		return append(far(), 0, 1, 7, 8, mostEach, mostHolds), nil
	}
	wrong = append(far(), last[kind]+1, last[kind]+2)
	wrong = slices.DeleteFunc(wrong, func(n int) bool { return n >= 0 && n <= last[kind] })
	if last[kind] >= 0 {
		right = []int{0, last[kind] / 2, last[kind]}
	}
	return right, wrong
}

// P11.1: each op with A and B at both edges of their kinds and beyond, where there are none, one, some and as many as may be of all things.
func TestCheckArguments(t *testing.T) {
	for _, each := range []int{0, 1, 2, mostEach} {
		for _, many := range []int{1, 3, mostCode} {
			for _, at := range []int{0, many / 2, many - 1} {
				p := rich(each, ends(many)...)
				for _, r := range table() {
					checkArguments(t, p, at, each, r)
				}
			}
		}
	}
}

func checkArguments(t *testing.T, p api.Program, at, each int, r opRow) {
	t.Helper()
	rightA, wrongA := edges(r.kinds[0], len(p.Code), each)
	rightB, wrongB := edges(r.kinds[1], len(p.Code), each)
	ask := func(listA, listB []int, want api.Fault) {
		t.Helper()
		for _, a := range listA {
			for _, b := range listB {
				p.Code[at] = in(r.op, a, b)
				same(t, told(r.name, a, b, "of", len(p.Code), each), code.Check(p), want)
			}
		}
	}
	ask(rightA, rightB, none)
	ask(wrongA, rightB, fault(api.ErrForm, at))
	ask(rightA, wrongB, fault(api.ErrForm, at))
	ask(wrongA, wrongB, fault(api.ErrForm, at))
	p.Code[at] = in(api.OpEnd, 0, 0)
}

// P11.1: cells, pipes, locks and groups are each counted by themselves.
func TestCheckThingsApart(t *testing.T) {
	p := api.Program{Cells: 1, Pipes: []int{0, 0}, Locks: 3, Groups: 4}
	many := map[byte]int{'m': 1, 'p': 2, 'l': 3, 'g': 4, 'c': 1, 'r': 8, 'k': 2, '-': 1}
	for _, r := range table() {
		for argument, kind := range r.kinds {
			if kind == 'n' {
				continue
			}
			p.Code = []api.Instr{with(r.op, argument, many[kind]-1)}
			same(t, told(r.name, "the last, argument", argument), code.Check(p), none)
			p.Code = []api.Instr{with(r.op, argument, many[kind])}
			same(t, told(r.name, "one more, argument", argument), code.Check(p), fault(api.ErrForm, 0))
		}
	}
}

// Run and Text tell first what Check says, Run also where what it is given beside the program is wrong.
func TestCheckIsAheadOfAll(t *testing.T) {
	for _, w := range wrongPrograms() {
		for _, n := range []int{0, 1, -1, api.MaxOps + 1, math.MaxInt, math.MinInt} {
			pc, regs, done, f := code.Run(w.p, n, [8]int{1, 2, 3}, n)
			same(t, w.what+": run", told(pc, regs, done, f), told(0, noRegs, 0, w.want))
		}
		text, f := code.Text(w.p)
		same(t, w.what+": text", told(text, f), told("", w.want))
	}
}
