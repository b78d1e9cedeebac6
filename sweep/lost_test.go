package sweep_test

import (
	"slices"
	"testing"

	"taskmill/api"
)

// P16.1, Lost: what no register holds, and what nothing reached holds.
func TestLost(t *testing.T) {
	for _, c := range []struct {
		what string
		h    api.Heap
		want string
	}{
		{"nothing at all", heap(""), ""},
		{"registers alone", heap("- -"), ""},
		{"no registers", heap("", "1", "2", "0", ""), "0 1 2 3"},
		{"registers that hold none", heap("- - -", "1", ""), "0 1"},
		{"what a register holds", heap("1", "", "", ""), "0 2"},
		{"what several registers hold", heap("3 - 1", "", "", "", "", ""), "0 2 4"},
		{"what one of two registers holds", heap("- 0", "", ""), "1"},
		{"what a register holds twice", heap("1 1", "", ""), "0"},
		{"what a slot holds", heap("0", "2", "", "", ""), "1 3"},
		{"the last of several slots", heap("0", "- - 2 - 3", "", "", "", ""), "1 4"},
		{"all slots of one", heap("2", "", "", "3 1 - 0", "", ""), "4"},
		{"what slots lead to one after the other", heap("4", "", "0", "1", "2", "3", "4"), "5"},
		{"and back again", heap("0", "3", "4", "1", "2", "0"), ""},
		{"what slots lead to, by two ways", heap("0", "1 2", "3", "3", "4", "", "3"), "5"},
		{"what several registers lead to", heap("0 2", "1", "", "3", "", "5", "3"), "4 5"},
		{"objects that hold what is reached are not", heap("0", "", "0", "1 0"), "1 2"},
		{"an object that holds itself", heap("-", "0"), "0"},
		{"an object that holds itself, in a register", heap("0", "0", "1"), "1"},
		{"a ring that no register leads to", heap("0", "", "2", "3", "1"), "1 2 3"},
		{"a ring that leads to what is reached", heap("0", "4", "2", "3 0", "1", ""), "1 2 3"},
		{"a ring that something reached leads to", heap("0", "2", "2", "3", "1", ""), "4"},
		{"two that hold one another", heap("2", "1", "0", "3", "2"), "0 1"},
		{"a slot that holds none ahead of one that does not", heap("0", "- 1", "- 2", "", "4", ""), "3 4"},
	} {
		askLost(t, c.what, c.h, numbers(c.want)...)
	}
}

// P16.1, Lost: rising, however the objects are held.
func TestLostRises(t *testing.T) {
	askLost(t, "held the other way round", heap("3", "7", "9 0", "1", "5", "2", "3", "4", "6 4", "", "8 2"), 0, 1, 2, 4, 6, 7, 8, 9)
	h := empties(mostObjects, 499, 250, 0)
	for object := range h.Objects {
		h.Objects[object] = []int{mostObjects - 1 - object}
	}
	askLost(t, "each held by the one across", h, slices.DeleteFunc(upTo(mostObjects), func(n int) bool { return slices.Contains([]int{499, 250, 0, 249}, n) })...)
}

// P16.1, Lost: as many objects, registers and slots as may be.
func TestLostMany(t *testing.T) {
	askLost(t, "none is reached", empties(mostObjects), upTo(mostObjects)...)
	askLost(t, "the last one is", empties(mostObjects, 499), upTo(499)...)
	askLost(t, "the last register's is", empties(mostObjects, append(nothings(mostRegisters-1), 7)...), slices.Delete(upTo(mostObjects), 7, 8)...)
	up, down := empties(mostObjects, 0), empties(mostObjects, 499)
	for object := range mostObjects - 1 {
		up.Objects[object] = []int{object + 1}
		down.Objects[object+1] = []int{object}
	}
	askLost(t, "a chain that goes up", up)
	askLost(t, "a chain that goes down", down)
	up.Objects[300], down.Objects[300] = nil, nil
	askLost(t, "a chain that is cut", up, upTo(mostObjects)[301:]...)
	askLost(t, "a chain that is cut", down, upTo(300)...)
	full := empties(mostObjects, 490)
	for object := range full.Objects {
		full.Objects[object] = slices.Repeat([]int{object / mostSlots * mostSlots}, mostSlots)
		full.Objects[object][mostSlots-1] = min(object+1, 499)
	}
	askLost(t, "all slots", full, upTo(480)...)
}
