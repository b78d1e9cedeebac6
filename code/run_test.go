package code_test

import (
	"math"
	"testing"

	"taskmill/api"
	"taskmill/code"
)

// countDown is a program of a task that counts from so many down to 0, and then ends.
func countDown(from int) api.Program {
	return api.Program{Code: []api.Instr{
		in(api.OpSet, 0, from), in(api.OpSet, 1, -1),
		in(api.OpAdd, 0, 1), in(api.OpZero, 0, 5), in(api.OpJump, 2, 0),
		in(api.OpEnd, 0, 0),
	}}
}

// running is a Run, and what it answers.
type running struct {
	what string
	p    api.Program
	pc   int
	regs [8]int
	fuel int
	next int
	then [8]int
	done int
}

func askRuns(t *testing.T, rows []running) {
	t.Helper()
	for _, r := range rows {
		next, then, done, f := code.Run(r.p, r.pc, r.regs, r.fuel)
		same(t, r.what, told(next, then, done, f), told(r.next, r.then, r.done, none))
	}
}

// P11.2: what is done one after the other, and where it ends.
func TestRun(t *testing.T) {
	p, regs := countDown(5), [8]int{9, 8, 7, 6, 5, 4, 3, 2}
	loop := api.Program{Code: []api.Instr{in(api.OpJump, 0, 0)}}
	pair := api.Program{Code: []api.Instr{in(api.OpJump, 1, 0), in(api.OpJump, 0, 0)}}
	sets := api.Program{Code: []api.Instr{in(api.OpSet, 7, 4), in(api.OpSet, 0, -4)}}
	askRuns(t, []running{
		{"no program", nothing, 0, regs, 0, 0, regs, 0},
		{"no program, with fuel", nothing, 0, regs, api.MaxOps, 0, regs, 0},
		{"counts down", p, 0, noRegs, 100, 5, [8]int{0, -1}, 16},
		{"counts down, with just the fuel", p, 0, noRegs, 16, 5, [8]int{0, -1}, 16},
		{"counts down, with one less", p, 0, noRegs, 15, 3, [8]int{0, -1}, 15},
		{"counts down, registers set ahead", p, 0, regs, 100, 5, [8]int{0, -1, 7, 6, 5, 4, 3, 2}, 16},
		{"without fuel", p, 0, regs, 0, 0, regs, 0},
		{"without fuel, from the middle", p, 3, regs, 0, 3, regs, 0},
		{"with fuel of 1", p, 0, regs, 1, 1, [8]int{5, 8, 7, 6, 5, 4, 3, 2}, 1},
		{"from the middle", p, 2, [8]int{3, -3}, 100, 5, [8]int{0, -3}, 2},
		{"from the last that is not alone", p, 5, regs, 100, 5, regs, 0},
		{"from behind the last", p, 6, regs, 100, 6, regs, 0},
		{"to the end of the instructions", sets, 0, regs, 100, 2, [8]int{-4, 8, 7, 6, 5, 4, 3, 4}, 2},
		{"to the end, with just the fuel", sets, 0, regs, 2, 2, [8]int{-4, 8, 7, 6, 5, 4, 3, 4}, 2},
		{"one ahead of the end", sets, 0, regs, 1, 1, [8]int{9, 8, 7, 6, 5, 4, 3, 4}, 1},
		{"a loop of one", loop, 0, regs, api.MaxOps, 0, regs, api.MaxOps},
		{"a loop of one, fuel of 1", loop, 0, regs, 1, 0, regs, 1},
		{"a loop of two", pair, 0, regs, api.MaxOps - 1, 1, regs, api.MaxOps - 1},
		{"a loop of two, even", pair, 0, regs, api.MaxOps, 0, regs, api.MaxOps},
		{"counts for long", countDown(2000), 0, noRegs, api.MaxOps, 2, [8]int{334, -1}, api.MaxOps},
	})
	long := api.Program{Code: make([]api.Instr, mostCode)}
	for i := range long.Code {
		long.Code[i] = in(api.OpSet, i%8, i)
	}
	askRuns(t, []running{{"1000 instructions", long, 0, noRegs, api.MaxOps, mostCode, [8]int{992, 993, 994, 995, 996, 997, 998, 999}, mostCode}})
}

// P11.2: all other ops end it, and are not done.
func TestRunEndsAtOthers(t *testing.T) {
	regs := [8]int{9, 0, 7, 6, 5, 4, 3, 2}
	for _, r := range table() {
		p := rich(1, in(api.OpSet, 3, 1), in(r.op, 0, 0), in(api.OpSet, 3, 2))
		next, then, done, f := code.Run(p, 0, regs, 2)
		alone := r.op <= api.OpZero
		if want := map[bool]int{false: 1, true: 2}[alone]; f != none || done != want {
			t.Errorf("%s: %d done, want %d (%v)", r.name, done, want, f)
		}
		if !alone {
			same(t, r.name, told(next, then), told(1, [8]int{9, 0, 7, 1, 5, 4, 3, 2}))
			next, then, done, f = code.Run(p, 1, regs, api.MaxOps)
			same(t, r.name+", at once", told(next, then, done, f), told(1, regs, 0, none))
		}
	}
}

// P11.2: what each op does, for all pairs of registers.
func TestRunOps(t *testing.T) {
	regs := [8]int{5, -3, 0, 5, math.MaxInt, math.MinInt, 1, -1}
	for a := range 8 {
		for b := range 8 {
			less := 0
			if regs[a] < regs[b] {
				less = 1
			}
			results := map[int]int{
				api.OpCopy: regs[b], api.OpAdd: regs[a] + regs[b], api.OpSub: regs[a] - regs[b], api.OpLess: less,
			}
			for op, result := range results {
				want := regs
				want[a] = result
				p := api.Program{Code: []api.Instr{in(api.OpEnd, 0, 0), in(op, a, b)}}
				askRuns(t, []running{{told("op", op, a, b), p, 1, regs, 7, 2, want, 1}})
			}
		}
		for _, n := range far() {
			want := regs
			want[a] = n
			p := api.Program{Code: []api.Instr{in(api.OpSet, a, n)}}
			askRuns(t, []running{{told("set", a, n), p, 0, regs, 7, 1, want, 1}})
		}
	}
}

// P11.2: sums and differences wrap at both ends of Go's int; less does not.
func TestRunWraps(t *testing.T) {
	one := func(op, a, b int) int {
		t.Helper()
		_, then, _, f := code.Run(api.Program{Code: []api.Instr{in(op, 2, 6)}}, 0, [8]int{2: a, 6: b}, 1)
		same(t, told("op", op, a, b), f, none)
		same(t, "the other register", then[6], b)
		return then[2]
	}
	same(t, "greatest + 1", one(api.OpAdd, math.MaxInt, 1), math.MinInt)
	same(t, "least + -1", one(api.OpAdd, math.MinInt, -1), math.MaxInt)
	same(t, "greatest + greatest", one(api.OpAdd, math.MaxInt, math.MaxInt), -2)
	same(t, "least + least", one(api.OpAdd, math.MinInt, math.MinInt), 0)
	same(t, "least - 1", one(api.OpSub, math.MinInt, 1), math.MaxInt)
	same(t, "greatest - -1", one(api.OpSub, math.MaxInt, -1), math.MinInt)
	same(t, "0 - least", one(api.OpSub, 0, math.MinInt), math.MinInt)
	same(t, "greatest - least", one(api.OpSub, math.MaxInt, math.MinInt), -1)
	same(t, "least - greatest", one(api.OpSub, math.MinInt, math.MaxInt), 1)
	same(t, "least less than greatest", one(api.OpLess, math.MinInt, math.MaxInt), 1)
	same(t, "greatest less than least", one(api.OpLess, math.MaxInt, math.MinInt), 0)
	same(t, "the same", one(api.OpLess, math.MinInt, math.MinInt), 0)
	same(t, "1 less than 2", one(api.OpLess, 1, 2), 1)
	same(t, "2 less than 1", one(api.OpLess, 2, 1), 0)
	same(t, "-1 less than 0", one(api.OpLess, -1, 0), 1)
}

// P11.2: both arguments are one register.
func TestRunOneRegister(t *testing.T) {
	for r := range 8 {
		for _, n := range []int{0, 1, -1, 7, math.MaxInt, math.MinInt} {
			for op, want := range map[int]int{api.OpCopy: n, api.OpAdd: 2 * n, api.OpSub: 0, api.OpLess: 0} {
				regs, then := [8]int{}, [8]int{}
				regs[r], then[r] = n, want
				askRuns(t, []running{{told("op", op, r, n), api.Program{Code: []api.Instr{in(op, r, r)}}, 0, regs, 1, 1, then, 1}})
			}
		}
	}
}

// P11.2: OpZero goes on there, if the register is 0, and behind else; OpJump goes on there.
func TestRunJumps(t *testing.T) {
	p := api.Program{Code: []api.Instr{in(api.OpZero, 4, 3), in(api.OpZero, 4, 0), in(api.OpZero, 4, 2), in(api.OpJump, 1, 0), in(api.OpJump, 4, 0)}}
	zero, one := [8]int{1, 1, 1, 1, 0, 1, 1, 1}, [8]int{4: 1}
	askRuns(t, []running{
		{"forward", p, 0, zero, 1, 3, zero, 1},
		{"not forward", p, 0, one, 1, 1, one, 1},
		{"back", p, 1, zero, 1, 0, zero, 1},
		{"not back", p, 1, one, 1, 2, one, 1},
		{"to itself", p, 2, zero, 1, 2, zero, 1},
		{"not to itself", p, 2, one, 1, 3, one, 1},
		{"to itself, on and on", p, 2, zero, 77, 2, zero, 77},
		{"jump back", p, 3, zero, 1, 1, zero, 1},
		{"jump to itself, the last", p, 4, one, 9, 4, one, 9},
	})
	for _, n := range []int{1, -1, math.MaxInt, math.MinInt, 1 << 32} {
		regs := [8]int{4: n}
		askRuns(t, []running{{told("of", n), p, 1, regs, 1, 2, regs, 1}})
	}
}

// P11.2: pc of -1, 0, the number of instructions and one more, and fuel of -1, 0, 1, MaxOps and one beyond.
func TestRunFaults(t *testing.T) {
	rangeF := fault(api.ErrRange, -1)
	regs := [8]int{1, 2, 3, 4, 5, 6, 7, 8}
	for _, r := range rightPrograms() {
		ask := func(what string, pc, fuel int, want api.Fault) {
			t.Helper()
			next, then, done, f := code.Run(r.p, pc, regs, fuel)
			same(t, told(r.what, what, pc, fuel), f, want)
			if want != none {
				same(t, told(r.what, what, pc, fuel), told(next, then, done), told(0, noRegs, 0))
			}
		}
		many := len(r.p.Code)
		for _, fuel := range []int{0, 1, api.MaxOps} {
			ask("right", 0, fuel, none)
			ask("right", many, fuel, none)
			for _, pc := range []int{-1, -2, many + 1, many + 2, math.MinInt, math.MaxInt, 1 << 32} {
				ask("pc", pc, fuel, rangeF)
			}
		}
		for _, fuel := range []int{-1, -2, api.MaxOps + 1, api.MaxOps + 2, math.MinInt, math.MaxInt, 1 << 32} {
			for _, pc := range []int{0, many, -1, many + 1} {
				ask("fuel", pc, fuel, rangeF)
			}
		}
	}
}
