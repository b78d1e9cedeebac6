// Package cell: memory, and what is done to its cells; see doc/01-cell.md.
package cell

import "taskmill/api"

// deed: of what a cell holds now, what it holds then, and what the op tells.
type deed func(now int, op api.Op) (then, told int)

// deeds: what is done to a cell, by the op's kind. A kind without a deed is none.
func deeds() map[int]deed {
	return map[int]deed{
		api.Load:  func(now int, op api.Op) (int, int) { return now, now },
		api.Store: func(now int, op api.Op) (int, int) { return op.A, 0 },
		api.Add:   func(now int, op api.Op) (int, int) { return now + op.A, now + op.A },
		api.Swap:  func(now int, op api.Op) (int, int) { return op.A, now },
		api.Cas: func(now int, op api.Op) (int, int) {
			if now == op.A {
				return op.B, 1
			}
			return now, 0
		},
	}
}

// do has a checked op done to its cell of mem, and answers what it tells.
func do(byKind map[int]deed, mem []int, op api.Op) int {
	then, told := byKind[op.Kind](mem[op.At], op)
	mem[op.At] = then
	return told
}

// Check answers what is wrong with a memory and the ops that are to be done to it.
func Check(mem []int, ops []api.Op) api.Fault {
	if len(mem) > api.MaxCell || len(ops) > api.MaxOps {
		return api.Fault{Code: api.ErrMany}
	}
	byKind := deeds()
	for i, op := range ops {
		if code := wrong(byKind, len(mem), op); code != api.OK {
			return api.Fault{Code: code, At: i}
		}
	}
	return api.Fault{}
}

// wrong answers the code of the first fault of one op, for a memory of so many cells.
func wrong(byKind map[int]deed, cells int, op api.Op) int {
	if _, known := byKind[op.Kind]; !known {
		return api.ErrKind
	}
	asksA := op.Kind != api.Load
	asksB := op.Kind == api.Cas
	if !asksA && op.A != 0 || !asksB && op.B != 0 {
		return api.ErrForm
	}
	if op.At < 0 || op.At >= cells {
		return api.ErrRange
	}
	return api.OK
}

// Run does ops one after the other: the memory then, and what each tells.
func Run(mem []int, ops []api.Op) ([]int, []int, api.Fault) {
	if f := Check(mem, ops); f.Code != api.OK {
		return nil, nil, f
	}
	byKind := deeds()
	now := fresh(mem)
	told := make([]int, 0, len(ops))
	for _, op := range ops {
		told = append(told, do(byKind, now, op))
	}
	return now, told, api.Fault{}
}

// fresh copies a list into memory of its own.
func fresh(list []int) []int {
	return append([]int{}, list...)
}
