package sweep_test

import (
	"slices"

	"taskmill/api"
)

// What stands here tells once more what the chapter's words say: of what is reached as a set that grows until it holds all, and of a cycle by the list of all that was ever shaded.

// isHeld: may a register or a slot of a heap hold this?
func isHeld(h api.Heap, held int) bool {
	return held == -1 || slices.Contains(upTo(len(h.Objects)), held)
}

// checkByTheWords answers what Check says.
func checkByTheWords(h api.Heap) api.Fault {
	if len(h.Objects) > mostObjects {
		return fault(api.ErrMany, 0)
	}
	if len(h.Roots) > mostRegisters {
		return fault(api.ErrMany, 0)
	}
	for at, held := range h.Roots {
		if !isHeld(h, held) {
			return fault(api.ErrRange, at)
		}
	}
	for at, slots := range h.Objects {
		if len(slots) > mostSlots {
			return fault(api.ErrSize, at)
		}
		for _, held := range slots {
			if !isHeld(h, held) {
				return fault(api.ErrForm, at)
			}
		}
	}
	return none
}

// isReachedByTheWords tells of each object of a right heap whether it is reached.
func isReachedByTheWords(h api.Heap) []bool {
	is := make([]bool, len(h.Objects))
	for object := range is {
		is[object] = slices.Contains(h.Roots, object)
	}
	for grows := true; grows; {
		grows = false
		for object, slots := range h.Objects {
			for _, held := range slots {
				if is[object] && held != -1 && !is[held] {
					is[held], grows = true, true
				}
			}
		}
	}
	return is
}

// lostByTheWords are the objects of a right heap that are not reached.
func lostByTheWords(h api.Heap) []int {
	var list []int
	for object, is := range isReachedByTheWords(h) {
		if !is {
			list = append(list, object)
		}
	}
	return list
}

// played is a cycle as it has gone so far.
type played struct {
	h       api.Heap
	barrier int
	first   int   // how many objects there were at first: all others are black
	shaded  []int // in their order; those that are black first, then those that are grey
	black   int   // how many of them are black
}

// beginByTheWords begins a cycle in a right heap.
func beginByTheWords(h api.Heap, barrier int) *played {
	p := &played{h: copied(h), barrier: barrier, first: len(h.Objects)}
	for _, held := range h.Roots {
		p.shade(held)
	}
	return p
}

func (p *played) isWhite(object int) bool {
	return object < p.first && !slices.Contains(p.shaded, object)
}

func (p *played) shade(object int) {
	if object != -1 && p.isWhite(object) {
		p.shaded = append(p.shaded, object)
	}
}

func (p *played) mark() {
	if p.black < len(p.shaded) {
		object := p.shaded[p.black]
		p.black++
		for _, held := range p.h.Objects[object] {
			p.shade(held)
		}
	}
}

func (p *played) markAll() {
	for p.black < len(p.shaded) {
		p.mark()
	}
}

// white are the objects that are white, rising.
func (p *played) white() []int {
	var list []int
	for object := range p.h.Objects {
		if p.isWhite(object) {
			list = append(list, object)
		}
	}
	return list
}

// slots are those of the object in a register, as it is numbered in an act; none, if there is no such register, or no object in it.
func (p *played) slots(register int) []int {
	if !slices.Contains(upTo(len(p.h.Roots)), register) || p.h.Roots[register] == -1 {
		return nil
	}
	return p.h.Objects[p.h.Roots[register]]
}

// wrongByTheWords is the code of what is wrong with an act.
func (p *played) wrongByTheWords(a api.Act) int {
	registers := upTo(len(p.h.Roots))
	isA, isC, isNone := slices.Contains(registers, a.A), slices.Contains(registers, a.C), a.C == -1
	var right bool
	switch a.Op {
	case api.GcWrite:
		right = slices.Contains(upTo(len(p.slots(a.A))), a.B) && (isC || isNone)
	case api.GcLoad:
		right = slices.Contains(upTo(len(p.slots(a.C))), a.B) && isA
	case api.GcCopy:
		right = isA && (isC || isNone) && a.B == 0
	case api.GcNew:
		right = isA && slices.Contains(upTo(mostSlots+1), a.B) && a.C == 0
	case api.GcMark:
		right = a.A == 0 && a.B == 0 && a.C == 0
	default:
		return api.ErrKind
	}
	if !right {
		return api.ErrRange
	}
	if a.Op == api.GcNew && len(p.h.Objects) >= mostObjects {
		return api.ErrMuch
	}
	return api.OK
}

// do does a right act.
func (p *played) do(a api.Act) {
	in := -1 // what is in register C
	if a.Op != api.GcMark && a.C != -1 {
		in = p.h.Roots[a.C]
	}
	switch a.Op {
	case api.GcWrite:
		slots := p.slots(a.A)
		if p.barrier == 2 || p.barrier == 3 {
			p.shade(slots[a.B])
		}
		if p.barrier == 1 || p.barrier == 3 {
			p.shade(in)
		}
		slots[a.B] = in
	case api.GcLoad:
		p.h.Roots[a.A] = p.h.Objects[in][a.B]
	case api.GcCopy:
		p.h.Roots[a.A] = in
	case api.GcNew:
		p.h.Objects = append(p.h.Objects, nothings(a.B))
		p.h.Roots[a.A] = len(p.h.Objects) - 1
	case api.GcMark:
		p.mark()
	}
}

// cycleByTheWords answers what Cycle says.
func cycleByTheWords(h api.Heap, barrier int, l []api.Act) (api.Heap, []int, api.Fault) {
	if f := checkByTheWords(h); f != none {
		return api.Heap{}, nil, f
	}
	if !slices.Contains(upTo(barriers), barrier) {
		return api.Heap{}, nil, fault(api.ErrKind, -1)
	}
	if len(l) > api.MaxOps {
		return api.Heap{}, nil, fault(api.ErrMany, -1)
	}
	p := beginByTheWords(h, barrier)
	for at, a := range l {
		if code := p.wrongByTheWords(a); code != api.OK {
			return api.Heap{}, nil, fault(code, at)
		}
		p.do(a)
	}
	p.markAll()
	if barrier == 1 {
		for _, held := range p.h.Roots {
			p.shade(held)
		}
		p.markAll()
	}
	return p.h, p.white(), none
}
