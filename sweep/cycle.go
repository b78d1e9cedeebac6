package sweep

import (
	"slices"

	"taskmill/api"
)

// What a write shades beside its doing: nothing (0), what the slot gets, what it held, or both.
const (
	barrierNew  = 1
	barrierOld  = 2
	barrierBoth = 3
	maxBarrier  = barrierBoth
)

// cycle is a marker at its work, and a program that goes on meanwhile in the same heap.
type cycle struct {
	*marker
	barrier int
}

// newCycle begins a cycle in a copy of a heap, since the program changes it.
func newCycle(h api.Heap, barrier int) *cycle {
	own := api.Heap{Roots: slices.Clone(h.Roots), Objects: make([][]int, len(h.Objects))}
	for object, slots := range h.Objects {
		own.Objects[object] = slices.Clone(slots)
	}
	return &cycle{marker: newMarker(own), barrier: barrier}
}

// hasRegister: is there such a register?
func (c *cycle) hasRegister(register int) bool {
	return register >= 0 && register < len(c.Roots)
}

// hasSource: is there such a register, or is it none?
func (c *cycle) hasSource(register int) bool {
	return register == none || c.hasRegister(register)
}

// hasSlot: is there such a register, an object in it, and such a slot of that?
func (c *cycle) hasSlot(register, slot int) bool {
	if !c.hasRegister(register) || c.Roots[register] == none {
		return false
	}
	return slot >= 0 && slot < len(c.Objects[c.Roots[register]])
}

// source answers what is in a register, or none, if it is none.
func (c *cycle) source(register int) int {
	if register == none {
		return none
	}
	return c.Roots[register]
}

// slot answers where a slot of the object in a register stands.
func (c *cycle) slot(register, slot int) *int {
	return &c.Objects[c.Roots[register]][slot]
}

// wrong answers the code of what is wrong with an act, as the heap is now.
func (c *cycle) wrong(a api.Act) int {
	there := false
	switch a.Op {
	case api.GcWrite:
		there = c.hasSlot(a.A, a.B) && c.hasSource(a.C)
	case api.GcLoad:
		there = c.hasRegister(a.A) && c.hasSlot(a.C, a.B)
	case api.GcCopy:
		there = c.hasRegister(a.A) && c.hasSource(a.C) && a.B == 0
	case api.GcNew:
		there = c.hasRegister(a.A) && a.B >= 0 && a.B <= maxSlots && a.C == 0
	case api.GcMark:
		there = a == api.Act{Op: api.GcMark}
	default:
		return api.ErrKind
	}
	switch {
	case !there:
		return api.ErrRange
	case a.Op == api.GcNew && len(c.Objects) == maxObjects:
		return api.ErrMuch
	}
	return api.OK
}

// do does an act of which nothing is wrong.
func (c *cycle) do(a api.Act) {
	switch a.Op {
	case api.GcWrite:
		c.write(c.slot(a.A, a.B), c.source(a.C))
	case api.GcLoad:
		c.Roots[a.A] = *c.slot(a.C, a.B)
	case api.GcCopy:
		c.Roots[a.A] = c.source(a.C)
	case api.GcNew:
		c.Roots[a.A] = c.born(a.B)
	case api.GcMark:
		c.mark()
	}
}

// write puts an object into a slot, behind the barrier.
func (c *cycle) write(slot *int, object int) {
	if c.barrier == barrierOld || c.barrier == barrierBoth {
		c.shade(*slot)
	}
	if c.barrier == barrierNew || c.barrier == barrierBoth {
		c.shade(object)
	}
	*slot = object
}

// born makes a black object of so many slots: its number.
func (c *cycle) born(slots int) int {
	c.Objects = append(c.Objects, slices.Repeat([]int{none}, slots))
	c.white = append(c.white, false)
	return len(c.Objects) - 1
}

// end marks what is left. With the barrier 1 a register may then hold something white, as what it got was not shaded, nor what was cut from the slot that it came from.
func (c *cycle) end() {
	c.finish()
	if c.barrier == barrierNew {
		c.shade(c.Roots...)
		c.finish()
	}
}
