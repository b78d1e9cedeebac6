package code_test

import (
	"math"
	"math/rand"
	"slices"
	"testing"

	"taskmill/api"
	"taskmill/code"
)

// The chapter's example.
func TestExamples(t *testing.T) {
	text, f := code.Text(rich(2, in(api.OpSet, 0, 5), in(api.OpSend, 1, 0)))
	same(t, "text", told(text, f), told("set r0 5\nsend p1 r0\n", none))
}

// rightProgram is a program that Check says nothing of, with so many instructions.
func rightProgram(r *rand.Rand, many int) api.Program {
	p := rich(1 + r.Intn(mostEach))
	room := map[byte]int{'r': 8, 'c': many, 'm': p.Cells, 'p': len(p.Pipes), 'l': p.Locks, 'g': p.Groups, 'k': 2, '-': 1}
	pick := func(kind byte) int {
		if kind != 'n' {
			return r.Intn(room[kind])
		}
		return []int{r.Intn(3), -r.Intn(3), int(r.Uint64()), math.MaxInt, math.MinInt}[r.Intn(5)]
	}
	for range many {
		row := table()[r.Intn(22)]
		if r.Intn(4) > 0 {
			row = table()[r.Intn(7)]
		}
		p.Code = append(p.Code, in(row.op, pick(row.kinds[0]), pick(row.kinds[1])))
	}
	return p
}

// What follows: Parse of Text is the Code.
func TestParseOfText(t *testing.T) {
	r := rand.New(rand.NewSource(13))
	for range 3000 {
		p := rightProgram(r, r.Intn(60))
		text, f := code.Text(p)
		same(t, "text", f, none)
		list, f := code.Parse(text)
		if f != none || !slices.Equal(list, p.Code) {
			t.Fatalf("parse: got %v %v, want %v", list, f, p.Code)
		}
		p.Code = list
		again, f := code.Text(p)
		same(t, "text again", told(again, f), told(text, none))
	}
	for _, r := range rightPrograms() {
		text, _ := code.Text(r.p)
		list, f := code.Parse(text)
		same(t, r.what, told(list, f), told(r.p.Code, none))
	}
}

// What follows: to Run so much, and then so much more, is to Run so much together.
func TestRunTogether(t *testing.T) {
	r := rand.New(rand.NewSource(14))
	long := 0
	for range 5000 {
		p := rightProgram(r, r.Intn(12))
		one, other := r.Intn(40), r.Intn(40)
		if r.Intn(50) == 0 {
			one, other = r.Intn(api.MaxOps/2), r.Intn(api.MaxOps/2)
		}
		pc := r.Intn(len(p.Code) + 1)
		regs := [8]int{r.Intn(3), r.Intn(3), -r.Intn(3), int(r.Uint64()), 0, 0, math.MaxInt, math.MinInt}
		next, then, done, f := code.Run(p, pc, regs, one)
		same(t, "so much", f, none)
		next, then, more, f := code.Run(p, next, then, other)
		apart := ran{next, then, done + more, f}
		if together := ranOf(code.Run(p, pc, regs, one+other)); apart != together {
			t.Fatalf("apart %v, together %v: %v from %d, %v, by %d and %d", apart, together, p, pc, regs, one, other)
		}
		if done == one && more == other {
			long++
		}
	}
	if long < 500 {
		t.Errorf("%d ran to the end of their fuel", long)
	}
}

// A run of one instruction at a time comes to where the whole run does.
func TestRunByOnes(t *testing.T) {
	p := countDown(100)
	next, regs, all := 0, noRegs, 0
	for range 1000 {
		var done int
		next, regs, done, _ = code.Run(p, next, regs, 1)
		all += done
	}
	same(t, "by ones", told(next, regs, all), told(5, [8]int{0, -1}, 2+3*100-1))
}
