package sweep_test

import (
	"math/rand"
	"slices"

	"taskmill/api"
)

// anyHeld is an object, or none.
func anyHeld(r *rand.Rand, objects int) int {
	if objects == 0 || r.Intn(4) == 0 {
		return -1
	}
	return r.Intn(objects)
}

// anyHeap is a right one; the more its slots, the less is lost.
func anyHeap(r *rand.Rand, objects, registers, slots int) api.Heap {
	h := api.Heap{Objects: make([][]int, objects), Roots: nothings(registers)}
	for object := range h.Objects {
		for range r.Intn(slots + 1) {
			h.Objects[object] = append(h.Objects[object], anyHeld(r, objects))
		}
	}
	for register := range h.Roots {
		if r.Intn(2) == 0 {
			h.Roots[register] = anyHeld(r, objects)
		}
	}
	return h
}

// smallHeap is a right one of which no limit is near.
func smallHeap(r *rand.Rand) api.Heap {
	return anyHeap(r, r.Intn(9), r.Intn(6), 1+r.Intn(2))
}

// anyAct may be right or wrong, but is not far from it. Some cut a slot, so that something becomes lost.
func anyAct(r *rand.Rand, p *played) api.Act {
	registers, slot := len(p.h.Roots), r.Intn(4)
	if registers == 0 {
		return api.Act{Op: api.GcMark}
	}
	a, c := r.Intn(registers), r.Intn(registers+1)-1
	if has := max(len(p.slots(a)), len(p.slots(c))); has > 0 && r.Intn(3) > 0 {
		slot = r.Intn(has)
	}
	switch r.Intn(9) {
	case 0, 1:
		return api.Act{Op: api.GcMark}
	case 2:
		return api.Act{Op: api.GcNew, A: a, B: r.Intn(4)}
	case 3:
		return api.Act{Op: api.GcCopy, A: a, C: c}
	case 4, 5:
		return api.Act{Op: api.GcLoad, A: a, B: slot, C: c}
	case 6:
		return api.Act{Op: api.GcWrite, A: a, B: slot, C: -1}
	}
	return api.Act{Op: api.GcWrite, A: a, B: slot, C: c}
}

// hide are acts by which a register gets what a slot holds, which is cut; none, where the slot holds none.
func hide(r *rand.Rand, p *played) []api.Act {
	if len(p.h.Roots) < 2 {
		return nil
	}
	two := r.Perm(len(p.h.Roots))
	for slot, held := range p.slots(two[1]) {
		if held != -1 {
			return []api.Act{{Op: api.GcLoad, A: two[0], B: slot, C: two[1]}, {Op: api.GcWrite, A: two[1], B: slot, C: -1}}
		}
	}
	return nil
}

// rightActs are so many, of which none is wrong.
func rightActs(r *rand.Rand, h api.Heap, many int) []api.Act {
	var l []api.Act
	p := beginByTheWords(h, 0)
	for len(l) < many {
		next := []api.Act{anyAct(r, p)}
		if r.Intn(3) == 0 && len(l)+1 < many {
			next = hide(r, p)
		}
		for _, a := range next {
			if p.wrongByTheWords(a) == api.OK {
				p.do(a)
				l = append(l, a)
			}
		}
	}
	return l
}

// nearlyRightActs are such ones, but for one of them at times.
func nearlyRightActs(r *rand.Rand, h api.Heap, many int) []api.Act {
	l := rightActs(r, h, many)
	if many > 0 && r.Intn(3) == 0 {
		a := &l[r.Intn(many)]
		*[]*int{&a.Op, &a.A, &a.B, &a.C}[r.Intn(4)] += r.Intn(5) - 2
	}
	return l
}

// allLists are all lists of at most so many of some numbers.
func allLists(most int, of []int) [][]int {
	all := [][]int{nil}
	for from := 0; most > 0; most-- {
		to := len(all)
		for _, list := range all[from:to] {
			for _, n := range of {
				all = append(all, append(slices.Clone(list), n))
			}
		}
		from = to
	}
	return all
}

// allHeaps are all that have so many objects, at most so many registers and slots, and such numbers in them.
func allHeaps(objects, registers, slots int, of []int) []api.Heap {
	kinds := allLists(slots, of)
	all := [][][]int{nil}
	for range objects {
		var more [][][]int
		for _, list := range all {
			for _, one := range kinds {
				more = append(more, append(slices.Clone(list), one))
			}
		}
		all = more
	}
	var heaps []api.Heap
	for _, list := range all {
		for _, roots := range allLists(registers, of) {
			heaps = append(heaps, api.Heap{Objects: list, Roots: roots})
		}
	}
	return heaps
}
