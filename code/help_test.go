package code_test

import (
	"fmt"
	"math"
	"slices"
	"testing"

	"taskmill/api"
)

// Limits that the chapter names, and which package api does not.
const (
	mostCode  = 1000
	mostEach  = 20
	mostHolds = 100
)

func fault(code, at int) api.Fault { return api.Fault{Code: code, At: at} }

var (
	none    = api.Fault{}
	nothing = api.Program{}
	noRegs  = [8]int{}
)

// opRow is an op as the chapter's table has it: its name, and its arguments' kinds.
type opRow struct {
	op    int
	name  string
	kinds [2]byte
}

// table is the chapter's table, column by column.
func table() []opRow {
	return []opRow{
		{api.OpSet, "set", [2]byte{'r', 'n'}},
		{api.OpCopy, "copy", [2]byte{'r', 'r'}},
		{api.OpAdd, "add", [2]byte{'r', 'r'}},
		{api.OpSub, "sub", [2]byte{'r', 'r'}},
		{api.OpLess, "less", [2]byte{'r', 'r'}},
		{api.OpJump, "jump", [2]byte{'c', '-'}},
		{api.OpZero, "zero", [2]byte{'r', 'c'}},
		{api.OpPrint, "print", [2]byte{'r', '-'}},
		{api.OpEnd, "end", [2]byte{'-', '-'}},
		{api.OpYield, "yield", [2]byte{'-', '-'}},
		{api.OpGo, "go", [2]byte{'c', 'r'}},
		{api.OpLoad, "load", [2]byte{'r', 'm'}},
		{api.OpStore, "store", [2]byte{'m', 'r'}},
		{api.OpSend, "send", [2]byte{'p', 'r'}},
		{api.OpGet, "get", [2]byte{'r', 'p'}},
		{api.OpShut, "shut", [2]byte{'p', '-'}},
		{api.OpLock, "lock", [2]byte{'l', 'k'}},
		{api.OpUnlock, "unlock", [2]byte{'l', 'k'}},
		{api.OpCount, "count", [2]byte{'g', 'r'}},
		{api.OpWait, "wait", [2]byte{'g', '-'}},
		{api.OpSleep, "sleep", [2]byte{'r', '-'}},
		{api.OpPanic, "panic", [2]byte{'-', '-'}},
	}
}

// letters are what stands ahead of an argument in a text, by its kind.
func letters() map[byte]string {
	return map[byte]string{'r': "r", 'c': "@", 'm': "c", 'p': "p", 'l': "l", 'g': "g", 'n': "", 'k': ""}
}

func in(op, a, b int) api.Instr { return api.Instr{Op: op, A: a, B: b} }

// with is an instruction of an op whose argument, A (0) or B (1), is n, while the other one is 0, which all kinds have.
func with(op, argument, n int) api.Instr {
	arguments := [2]int{}
	arguments[argument] = n
	return in(op, arguments[0], arguments[1])
}

// rich is a program with so many of everything beside these instructions.
func rich(each int, code ...api.Instr) api.Program {
	return api.Program{Code: code, Cells: each, Pipes: make([]int, each), Locks: each, Groups: each}
}

// ends are so many instructions that end.
func ends(many int) []api.Instr {
	return slices.Repeat([]api.Instr{{Op: api.OpEnd}}, many)
}

// far are numbers that only n is of.
func far() []int {
	return []int{-1, -2, -1000, math.MinInt, math.MinInt + 1, mostCode, mostCode + 1, math.MaxInt, 1 << 32, 1<<32 + 1, 1 << 62}
}

// noOps are numbers of no op: one below the first, one above the last, and farther ones.
func noOps() []int { return append(far(), 0, 23, 24, 64, 255, 256, 257, 1<<32+api.OpEnd) }

func told(parts ...any) string { return fmt.Sprintln(parts...) }

// brief is a text as it can be told when it is long.
func brief(text string) string { return fmt.Sprintf("%.60q", text) }

// same holds two things against each other as they are told: nil and empty lists are the same.
func same(t *testing.T, what string, got, want any) {
	t.Helper()
	if g, w := fmt.Sprint(got), fmt.Sprint(want); g != w {
		t.Errorf("%s: got %.300s, want %.300s", what, g, w)
	}
}
