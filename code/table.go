package code

import "taskmill/api"

// kind of an argument.
type kind int

// Kinds of arguments.
const (
	none kind = iota
	register
	number
	instruction
	cell
	pipe
	lock
	group
	choice
)

// registers is how many registers a task has.
const registers = 8

// letters: what stands ahead of an argument of each kind, in a text.
var letters = [...]string{
	none:        "",
	register:    "r",
	number:      "",
	instruction: "@",
	cell:        "c",
	pipe:        "p",
	lock:        "l",
	group:       "g",
	choice:      "",
}

// row: an op's name, and the kinds of its arguments.
type row struct {
	name string
	a, b kind
}

// rows: all ops, each at its number. No op has the number 0.
var rows = [...]row{
	api.OpSet:    {"set", register, number},
	api.OpCopy:   {"copy", register, register},
	api.OpAdd:    {"add", register, register},
	api.OpSub:    {"sub", register, register},
	api.OpLess:   {"less", register, register},
	api.OpJump:   {"jump", instruction, none},
	api.OpZero:   {"zero", register, instruction},
	api.OpPrint:  {"print", register, none},
	api.OpEnd:    {"end", none, none},
	api.OpYield:  {"yield", none, none},
	api.OpGo:     {"go", instruction, register},
	api.OpLoad:   {"load", register, cell},
	api.OpStore:  {"store", cell, register},
	api.OpSend:   {"send", pipe, register},
	api.OpGet:    {"get", register, pipe},
	api.OpShut:   {"shut", pipe, none},
	api.OpLock:   {"lock", lock, choice},
	api.OpUnlock: {"unlock", lock, choice},
	api.OpCount:  {"count", group, register},
	api.OpWait:   {"wait", group, none},
	api.OpSleep:  {"sleep", register, none},
	api.OpPanic:  {"panic", none, none},
}

// firstOp is the least number of an op.
const firstOp = api.OpSet

// isOp: is a number that of an op?
func isOp(op int) bool {
	return op >= firstOp && op < len(rows)
}

// opsByName answers the number of each op, by its name.
func opsByName() map[string]int {
	ops := map[string]int{}
	for op := firstOp; op < len(rows); op++ {
		ops[rows[op].name] = op
	}
	return ops
}

// room answers how many numbers a program has of a kind, from 0 on. (An argument that is none is 0, the one number of its kind.)
func room(p api.Program, k kind) int {
	switch k {
	case register:
		return registers
	case instruction:
		return len(p.Code)
	case cell:
		return p.Cells
	case pipe:
		return len(p.Pipes)
	case lock:
		return p.Locks
	case group:
		return p.Groups
	case choice:
		return 2
	}
	return 1
}

// fits: is a number of a kind, in a program?
func fits(p api.Program, k kind, n int) bool {
	return k == number || within(n, 0, room(p, k)-1)
}

// within: is a number from low to high?
func within(n, low, high int) bool {
	return n >= low && n <= high
}
