package sweep_test

import (
	"fmt"
	"math"
	"slices"
	"testing"

	"taskmill/api"
)

// P16.1: heaps of which nothing is wrong, also where nobody reaches anything.
func TestCheckRight(t *testing.T) {
	for _, c := range []struct {
		what string
		h    api.Heap
	}{
		{"nothing at all", heap("")},
		{"registers alone", heap("- - -")},
		{"one object", heap("", "")},
		{"one object in a register", heap("0", "")},
		{"an object in several registers", heap("0 - 0 0", "")},
		{"an object that holds itself", heap("", "0")},
		{"what is held twice", heap("1", "1 1 0 0", "0 0")},
		{"slots that hold none", heap("0", "- - -", "-")},
		{"the first and the last object", heap("0 2", "2 0", "0 2", "2 0 -")},
		{"no registers", heap("", "1", "2", "0")},
	} {
		askRight(t, c.what, c.h)
	}
}

// P16.1: no objects, one, 500 and 501.
func TestCheckManyObjects(t *testing.T) {
	for _, many := range []int{0, 1, 2, mostObjects - 1, mostObjects} {
		askRight(t, fmt.Sprint(many), empties(many))
		askRight(t, fmt.Sprint(many, " and a register"), empties(many, many-1))
	}
	for _, many := range []int{mostObjects + 1, mostObjects + 2, 512, 1000, 5000} {
		askFault(t, fmt.Sprint(many), empties(many), fault(api.ErrMany, 0))
		askFault(t, fmt.Sprint(many, " and a register"), empties(many, many-1), fault(api.ErrMany, 0))
	}
}

// P16.1: no registers, one, 16 and 17.
func TestCheckManyRegisters(t *testing.T) {
	for _, many := range []int{0, 1, 2, mostRegisters - 1, mostRegisters} {
		askRight(t, fmt.Sprint(many), empties(0, nothings(many)...))
		askRight(t, fmt.Sprint(many, " that hold the last one"), empties(7, slices.Repeat([]int{6}, many)...))
	}
	for _, many := range []int{mostRegisters + 1, mostRegisters + 2, mostSlots, 32, 64, mostObjects, 1000} {
		askFault(t, fmt.Sprint(many), empties(0, nothings(many)...), fault(api.ErrMany, 0))
		askFault(t, fmt.Sprint(many, " that hold one"), empties(1, slices.Repeat([]int{0}, many)...), fault(api.ErrMany, 0))
	}
	askRight(t, "as many as may be of both", empties(mostObjects, upTo(mostRegisters)...))
	askFault(t, "too many of both", empties(mostObjects+1, nothings(mostRegisters+1)...), fault(api.ErrMany, 0))
}

// P16.1: an object has no slots, one, 20 and 21.
func TestCheckManySlots(t *testing.T) {
	for _, many := range []int{0, 1, 2, mostSlots - 1, mostSlots} {
		askRight(t, fmt.Sprint(many), api.Heap{Objects: [][]int{nothings(many)}})
		askRight(t, fmt.Sprint(many, " of the last one"), api.Heap{Objects: [][]int{{1}, {0}, slices.Repeat([]int{2}, many)}, Roots: []int{2}})
	}
	for _, many := range []int{mostSlots + 1, mostSlots + 2, 32, mostObjects, 5000} {
		askFault(t, fmt.Sprint(many), api.Heap{Objects: [][]int{nothings(many)}}, fault(api.ErrSize, 0))
		askFault(t, fmt.Sprint(many, " of the last one"), api.Heap{Objects: [][]int{{1}, {0}, slices.Repeat([]int{2}, many)}}, fault(api.ErrSize, 2))
		askFault(t, fmt.Sprint(many, ", ahead of what they hold"), api.Heap{Objects: [][]int{{1}, slices.Repeat([]int{-2}, many)}}, fault(api.ErrSize, 1))
	}
	askRight(t, "as many as may be, all together", api.Heap{Objects: slices.Repeat([][]int{nothings(mostSlots)}, mostObjects)})
}

// P16.1: a register holds -1, or an object.
func TestCheckRegisters(t *testing.T) {
	for _, many := range []int{0, 1, 2, 3, mostObjects} {
		for held := -1; held < many; held++ {
			if held < 5 || held > many-5 {
				askRight(t, fmt.Sprint(held, " of ", many), empties(many, -1, held))
			}
		}
		for _, held := range append(far(), many, many+1) {
			if held >= 0 && held < many {
				continue
			}
			what := fmt.Sprint(held, " of ", many)
			askFault(t, what, empties(many, held), fault(api.ErrRange, 0))
			askFault(t, what, empties(many, -1, held, -1), fault(api.ErrRange, 1))
			askFault(t, what+", the first of several", empties(many, -1, -1, held, -2, held), fault(api.ErrRange, 2))
			askFault(t, what+", the last one", empties(many, append(nothings(mostRegisters-1), held)...), fault(api.ErrRange, 15))
		}
	}
}

// P16.1: a slot holds -1, or an object.
func TestCheckSlots(t *testing.T) {
	for _, many := range []int{1, 2, 3, mostObjects} {
		for _, object := range []int{0, many / 2, many - 1} {
			with := func(slots ...int) api.Heap {
				h := empties(many, 0)
				h.Objects[object] = slots
				return h
			}
			for _, held := range []int{-1, 0, many / 2, many - 1} {
				askRight(t, fmt.Sprint(held, " of ", many, " in ", object), with(-1, held, 0))
			}
			for _, held := range append(far(), many, many+1) {
				if held >= 0 && held < many {
					continue
				}
				what := fmt.Sprint(held, " of ", many, " in ", object)
				askFault(t, what, with(held), fault(api.ErrForm, object))
				askFault(t, what+", not the first slot", with(0, -1, held, 0), fault(api.ErrForm, object))
				askFault(t, what+", the last slot", with(append(nothings(mostSlots-1), held)...), fault(api.ErrForm, object))
			}
		}
	}
}

// P16.1: too many are told ahead of what registers hold, and that ahead of all objects.
func TestCheckOrder(t *testing.T) {
	size := api.Heap{Objects: [][]int{nothings(mostSlots + 1)}, Roots: []int{0}}
	form := heap("0", "1")
	for _, c := range []struct {
		what string
		h    api.Heap
		want api.Fault
	}{
		{"a size", size, fault(api.ErrSize, 0)},
		{"a form", form, fault(api.ErrForm, 0)},
		{"a register ahead of a size", api.Heap{Objects: size.Objects, Roots: []int{0, 1}}, fault(api.ErrRange, 1)},
		{"a register ahead of a form", api.Heap{Objects: form.Objects, Roots: []int{0, 0, 0, -2}}, fault(api.ErrRange, 3)},
		{"too many registers ahead of what they hold", empties(0, slices.Repeat([]int{5}, mostRegisters+1)...), fault(api.ErrMany, 0)},
		{"too many registers ahead of a size", api.Heap{Objects: size.Objects, Roots: nothings(mostRegisters + 1)}, fault(api.ErrMany, 0)},
		{"too many registers ahead of a form", api.Heap{Objects: form.Objects, Roots: nothings(mostRegisters + 1)}, fault(api.ErrMany, 0)},
		{"too many objects ahead of registers", empties(mostObjects+1, -1, -2), fault(api.ErrMany, 0)},
		{"too many objects ahead of sizes", api.Heap{Objects: slices.Repeat(size.Objects, mostObjects+1)}, fault(api.ErrMany, 0)},
		{"too many objects ahead of forms", api.Heap{Objects: slices.Repeat([][]int{{-2}}, mostObjects+1)}, fault(api.ErrMany, 0)},
	} {
		askFault(t, c.what, c.h, c.want)
	}
}

// P16.1: object by object: what is wrong with one is told ahead of all that is wrong with those behind it.
func TestCheckFirstObjectFirst(t *testing.T) {
	size, form, both := nothings(mostSlots+1), []int{0, 1, -2}, slices.Repeat([]int{math.MaxInt}, mostSlots+1)
	right := []int{0, -1}
	for _, c := range []struct {
		objects [][]int
		want    api.Fault
	}{
		{[][]int{size, form, both}, fault(api.ErrSize, 0)},
		{[][]int{form, size, both}, fault(api.ErrForm, 0)},
		{[][]int{both, form, size}, fault(api.ErrSize, 0)},
		{[][]int{right, form, size}, fault(api.ErrForm, 1)},
		{[][]int{right, size, form}, fault(api.ErrSize, 1)},
		{[][]int{right, right, both, form}, fault(api.ErrSize, 2)},
		{[][]int{right, right, right, form, size}, fault(api.ErrForm, 3)},
		{[][]int{right, right, form, form}, fault(api.ErrForm, 2)},
		{[][]int{right, size, size}, fault(api.ErrSize, 1)},
	} {
		askFault(t, fmt.Sprint(c.want), api.Heap{Objects: c.objects, Roots: []int{0, -1}}, c.want)
	}
	behind := empties(mostObjects)
	behind.Objects[mostObjects-1] = []int{mostObjects}
	askFault(t, "the last object", behind, fault(api.ErrForm, mostObjects-1))
	behind.Objects[mostObjects-2] = nothings(mostSlots + 1)
	askFault(t, "the last but one", behind, fault(api.ErrSize, mostObjects-2))
}
