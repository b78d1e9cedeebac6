package sweep_test

import (
	"fmt"
	"slices"
	"testing"

	"taskmill/api"
)

// What askEach is handed last in these tests is what is white with each barrier, from 0 to 3, with `;` between them.

// P16.2: the program loads an object, and cuts it from where the marker would have found it.
func TestHidden(t *testing.T) {
	h := heap("0 -", "1", "2", "")
	askEach(t, "held by a register", h, "load 1 0.0; write 0.0 -", heap("0 1", "-", "2", ""), "1 2;;;")
	askEach(t, "and let go", h, "load 1 0.0; write 0.0 -; copy 1 -", heap("0 -", "-", "2", ""), "1 2;1 2;;")
	askEach(t, "and hung where the marker has been", h, "load 1 0.0; mark; write 0.0 -; write 0.0 1; copy 1 -", heap("0 -", "1", "2", ""), ";;;")
	askEach(t, "cut alone", h, "write 0.0 -", heap("0 -", "-", "2", ""), "1 2;1 2;;")
	askEach(t, "cut where the marker has been", h, "mark; write 0.0 -", heap("0 -", "-", "2", ""), ";;;")
	askEach(t, "the second one cut from the first", h, "load 1 0.0; write 1.0 -", heap("0 1", "1", "-", ""), "2;2;;")
	askEach(t, "another in its place", h, "load 1 0.0; load 1 1.0; write 0.0 1", heap("0 2", "2", "2", ""), "1;1;;")
	askEach(t, "itself in its place", h, "load 1 0.0; write 0.0 0", heap("0 1", "0", "2", ""), "1 2;;;")
}

// P16.2: what a slot gets is shaded with the barriers 1 and 3, where it is seen with 1 alone: with 3 what it held is met, too.
func TestGetsIsShaded(t *testing.T) {
	h := heap("0 1 -", "-", "2", "3", "")
	askEach(t, "hung where the marker has been", h, "mark; load 2 1.0; write 1.0 -; write 0.0 2; copy 2 -", heap("0 1 -", "2", "-", "3", ""), "2 3;;;")
	askEach(t, "and cut again", h, "mark; load 2 1.0; write 1.0 -; write 0.0 2; copy 2 -; write 0.0 -", heap("0 1 -", "-", "-", "3", ""), "2 3;;;")
	askEach(t, "hung where the marker comes", h, "load 2 1.0; write 1.0 -; write 0.0 2; copy 2 -", heap("0 1 -", "2", "-", "3", ""), ";;;")
	askEach(t, "hung, and cut ahead of the marker", h, "load 2 1.0; write 1.0 -; write 0.0 2; write 0.0 -; copy 2 -", heap("0 1 -", "-", "-", "3", ""), "2 3;;;")
	askEach(t, "hung onto itself", h, "load 2 1.0; write 1.0 -; write 2.0 2; copy 2 -", heap("0 1 -", "-", "-", "2", ""), "2 3;3;;")
	askEach(t, "the same into the same slot", h, "load 2 1.0; write 1.0 2; write 1.0 -; copy 2 -", heap("0 1 -", "-", "-", "3", ""), "2 3;;;")
	askEach(t, "its slots are gone through when it is its turn", h, "load 2 1.0; write 1.0 2; mark; mark; write 2.0 -; write 1.0 -; copy 2 -", heap("0 1 -", "-", "-", "-", ""), "3;3;;")
	askEach(t, "and not later", h, "load 2 1.0; write 1.0 2; mark; mark; mark; write 2.0 -; write 1.0 -; copy 2 -", heap("0 1 -", "-", "-", "-", ""), ";;;")
}

// P16.2: what a slot held is shaded with the barriers 2 and 3, also if it is written again as it was.
func TestHeldIsShaded(t *testing.T) {
	h := heap("0 -", "1 2", "3", "", "")
	askEach(t, "one slot", h, "write 0.0 -", heap("0 -", "- 2", "3", "", ""), "1 3;1 3;;")
	askEach(t, "the other slot", h, "write 0.1 -", heap("0 -", "1 -", "3", "", ""), "2;2;;")
	askEach(t, "both", h, "write 0.1 -; write 0.0 -", heap("0 -", "- -", "3", "", ""), "1 2 3;1 2 3;;")
	askEach(t, "what holds the slot", h, "write 0.0 0", heap("0 -", "0 2", "3", "", ""), "1 3;1 3;;")
	askEach(t, "what a register holds that holds none", h, "write 0.0 1", heap("0 -", "- 2", "3", "", ""), "1 3;1 3;;")
	askEach(t, "what nobody could reach at first stays white", heap("0", "", "1"), "mark; mark", heap("0", "", "1"), "1;1;1;1")
}

// P16.2: -1 is shaded never, and may be written over -1.
func TestNoneIsNotShaded(t *testing.T) {
	h := heap("0 -", "- 1", "", "2")
	for _, text := range []string{"write 0.0 -", "write 0.0 1", "mark; write 0.0 -", "mark; mark; write 0.0 1; write 0.0 -", "load 1 0.0; write 0.0 1"} {
		askEach(t, "none over none", h, text, h, "2;2;2;2")
	}
	askEach(t, "none over one, and one over none", h, "load 1 0.1; write 0.1 -; write 0.0 1", heap("0 1", "1 -", "", "2"), "2;2;2;2")
	askEach(t, "none over one, and none over none", h, "write 0.1 -; write 0.1 -", heap("0 -", "- -", "", "2"), "1 2;1 2;2;2")
	askEach(t, "objects that hold none alone", heap("0 1", "- - -", "-"), "write 0.0 -; mark; write 1.0 -; mark; mark", heap("0 1", "- - -", "-"), ";;;")
}

// P16.2: GcLoad, GcCopy and GcNew shade nothing.
func TestRegistersAreNotShaded(t *testing.T) {
	h := heap("0 - - -", "1", "2", "")
	then := heap("0 - - -", "-", "2", "")
	askEach(t, "loaded", h, "load 1 0.0; write 0.0 -; copy 1 -", then, "1 2;1 2;;")
	askEach(t, "copied", h, "load 1 0.0; copy 2 1; copy 3 2; write 0.0 -; copy 1 -; copy 2 -; copy 3 -", then, "1 2;1 2;;")
	askEach(t, "overwritten by a new one", h, "load 1 0.0; write 0.0 -; new 1 0", heap("0 3 - -", "-", "2", "", ""), "1 2;1 2;;")
	askEach(t, "overwritten by a load", h, "load 1 0.0; write 0.0 -; load 1 1.0", heap("0 2 - -", "-", "2", ""), "1 2;1;;")
	askEach(t, "let go at once is shaded as it was at first", heap("0 1", "", "2", ""), "copy 0 -; copy 1 -", heap("- -", "", "2", ""), ";;;")
	askEach(t, "loaded and kept", h, "load 1 0.0; write 0.0 -; load 2 1.0", heap("0 1 2 -", "-", "2", ""), "1 2;;;")
	askEach(t, "loaded behind the marker", h, "load 1 0.0; write 0.0 -; copy 3 1; copy 1 -; mark; mark; mark", heap("0 - - 1", "-", "2", ""), "1 2;;;")
}

// P16.2: a new object is black: the marker does not go through it, not even where it is written.
func TestNewIsBlack(t *testing.T) {
	h := heap("0 - -", "1", "2", "")
	askEach(t, "it holds something white", h, "load 1 0.0; write 0.0 -; new 2 1; write 2.0 1; copy 1 -", heap("0 - 3", "-", "2", "", "1"), "1 2;;;")
	askEach(t, "and is itself held by something grey", h, "load 1 0.0; new 2 1; write 0.0 2; write 2.0 1; copy 1 -; copy 2 -", heap("0 - -", "3", "2", "", "1"), "1 2;;;")
	askEach(t, "nobody holds it any more", h, "new 1 1; write 1.0 0; copy 1 -", heap("0 - -", "1", "2", "", "0"), ";;;")
	askEach(t, "it is cut from where it hung", h, "new 1 1; write 0.0 1; write 0.0 -; copy 1 -", heap("0 - -", "-", "2", "", "-"), "1 2;1 2;;")
	askEach(t, "the marker finds a register alone that holds it", h, "load 1 0.0; write 0.0 -; new 2 1; write 2.0 1; copy 0 -; copy 1 -; mark; mark", heap("- - 3", "-", "2", "", "1"), "1 2;;;")
	askEach(t, "what it holds is met from the registers, with the barrier 1", h, "load 1 0.0; write 0.0 -; new 2 1", heap("0 1 3", "-", "2", "", "-"), "1 2;;;")
}

// P16.2: the grey line: the first one first. The marker goes through so many, and then the program cuts all that they hold: who was not gone through has lost what it held.
func TestLine(t *testing.T) {
	// what the registers hold has one slot each, and what that holds is found by it alone
	for _, c := range []struct {
		what  string
		h     api.Heap
		black string // in the order in which the marker goes through them
	}{
		{"as the registers hold them", heap("0 1 2", "10", "11", "12"), "0 1 2"},
		{"the other way round", heap("2 1 0", "10", "11", "12"), "2 1 0"},
		{"one that is held twice stands there once", heap("1 0 1 1 2", "10", "11", "12"), "1 0 2"},
		{"registers that hold none", heap("- 1 - 0 -", "10", "11"), "1 0"},
		{"one register", heap("1", "10", "11"), "1"},
	} {
		askLine(t, c.what, c.h, numbers(c.black))
	}
}

// askLine asks in which order the marker goes through what registers hold, each of which has one slot.
func askLine(t *testing.T, what string, h api.Heap, black []int) {
	t.Helper()
	for len(h.Objects) < 13 {
		h.Objects = append(h.Objects, nil)
	}
	for marked := range len(black) + 3 {
		l, then := marks(marked), copied(h)
		for register, object := range h.Roots {
			if object != -1 {
				l = append(l, api.Act{Op: api.GcWrite, A: register, C: -1})
				then.Objects[object] = []int{-1}
			}
		}
		met := map[int]bool{}
		for place, object := range black {
			met[object] = true
			if place < marked {
				met[h.Objects[object][0]] = true
			}
		}
		white := slices.DeleteFunc(upTo(len(h.Objects)), func(object int) bool { return met[object] })
		askCycle(t, fmt.Sprint(what, ", ", marked, " marked"), h, 0, l, then, white...)
		askCycle(t, fmt.Sprint(what, ", ", marked, " marked"), h, 1, l, then, white...)
	}
}

// P16.2: what the marker finds goes to the line's end, in the order of the slots; what stands there, or is black, stays as it is.
func TestLineGrows(t *testing.T) {
	// 0 holds 2 and 3, 1 holds 4; each of these holds one more: 12, 13 and 14. Registers 2, 3 and 4 get 2, 3 and 4, whose slots are cut.
	h := heap("0 1 - - -", "2 3", "4", "12", "13", "14", "", "", "", "", "", "", "", "", "", "")
	loads, cuts := "load 2 0.0; load 3 0.1; load 4 1.0", "; write 2.0 -; write 3.0 -; write 4.0 -"
	then := heap("0 1 2 3 4", "2 3", "4", "-", "-", "-", "", "", "", "", "", "", "", "", "", "")
	for marked, white := range []string{"12 13 14", "12 13 14", "12 13 14", "13 14", "14", "", "", ""} {
		list := append(numbers("5 6 7 8 9 10 11"), numbers(white)...)
		l := slices.Concat(acts(loads), marks(marked), acts(cuts[2:]))
		askCycle(t, "found", h, 0, l, then, list...)
		askCycle(t, "found", h, 1, l, then, list...)
	}
	// the slots the other way round
	h.Objects[0], then.Objects[0] = []int{3, 2}, []int{3, 2}
	for marked, white := range []string{"12 13 14", "12 13 14", "12 13 14", "12 14", "14", "", ""} {
		list := append(numbers("5 6 7 8 9 10 11"), numbers(white)...)
		l := slices.Concat(acts("load 2 0.1; load 3 0.0; load 4 1.0"), marks(marked), acts(cuts[2:]))
		askCycle(t, "found the other way round", h, 0, l, then, list...)
	}
}

// P16.2: an object that is grey, or black, is not shaded again.
func TestShadedOnce(t *testing.T) {
	h := heap("0 1 2 -", "-", "0", "3", "")
	then := heap("0 1 2 3", "3", "0", "-", "")
	askEach(t, "a black one that the marker finds", h, "load 3 2.0; write 2.0 -; mark; mark; write 0.0 3", then, "3;;;")
	askEach(t, "a grey one that the marker finds", heap("1 0 2 -", "-", "0", "3", ""), "load 3 2.0; write 2.0 -; mark; mark; write 1.0 3", heap("1 0 2 3", "3", "0", "-", ""), "3;;;")
	// 0 is written once more while it is grey: it is still gone through ahead of 1
	g := heap("0 1 2 -", "3", "-", "4", "", "")
	askEach(t, "a grey one that is written keeps its turn", g, "write 1.0 0; mark; write 0.0 -; mark; write 2.0 -", heap("0 1 2 -", "-", "0", "-", "", ""), "4;4;;")
	askEach(t, "and so does the one behind it", g, "mark; mark; write 1.0 0; write 2.0 -", heap("0 1 2 -", "3", "0", "-", "", ""), "4;4;;")
	// 0 is written while it is grey, or black: it takes no second turn, ahead of 2
	d := heap("0 1 -", "-", "2", "3", "")
	askEach(t, "a grey one that is written takes no other turn", d, "write 0.0 0; load 2 1.0; write 0.0 2; mark; mark; mark; write 2.0 -", heap("0 1 2", "2", "2", "-", ""), ";;;")
	askEach(t, "a black one that is written takes no other turn", d, "mark; write 0.0 0; load 2 1.0; write 0.0 2; mark; mark; write 2.0 -", heap("0 1 2", "2", "2", "-", ""), ";;;")
	askEach(t, "one that is written and stands in the line's end", heap("0 1 -", "2", "3", "-", ""), "load 2 0.0; write 2.0 0; mark; write 1.0 -", heap("0 1 2", "2", "-", "0", ""), "3;3;;")
	// 3 is shaded by a write, and stands behind 0 and 1; its turn comes third
	w := heap("0 1 -", "-", "2", "3", "")
	for marked, white := range []string{"3", "3", "3", "", ""} {
		l := slices.Concat(acts("load 2 1.0; write 0.0 2"), marks(marked), acts("write 2.0 -"))
		askCycle(t, fmt.Sprint("one that is written goes to the line's end, ", marked, " marked"), w, 1, l, heap("0 1 2", "2", "2", "-", ""), numbers(white)...)
	}
}

// P16.2: GcMark does nothing where nothing is grey.
func TestNothingGrey(t *testing.T) {
	for _, h := range []api.Heap{heap(""), heap("- -"), heap("-", "0", ""), heap("", "1", "0")} {
		for _, many := range []int{1, 2, 5} {
			for barrier := range barriers {
				askCycle(t, "never", h, barrier, marks(many), h, upTo(len(h.Objects))...)
			}
		}
	}
	h := heap("0 - -", "1", "-", "3", "")
	askEach(t, "no longer", h, "mark; mark; mark; mark; mark; write 0.0 -", heap("0 - -", "-", "-", "3", ""), "2 3;2 3;2 3;2 3")
	askEach(t, "and once more", h, "mark; mark; mark; new 1 1; mark; load 2 0.0; mark; write 1.0 2; mark", heap("0 4 1", "1", "-", "3", "", "1"), "2 3;2 3;2 3;2 3")
	// nothing is grey, until a write shades what was hidden
	g := heap("0 1 -", "-", "2", "3", "")
	askEach(t, "nothing is grey, and then something is", g, "load 2 1.0; write 1.0 -; mark; mark; mark; mark; write 0.0 2; mark; write 2.0 -", heap("0 1 2", "2", "-", "-", ""), "2 3;;;")
	askEach(t, "nothing was grey, and then something would be", g, "load 2 1.0; write 1.0 -; mark; mark; mark; mark; write 0.0 2; write 2.0 -", heap("0 1 2", "2", "-", "-", ""), "2 3;3;;")
}

// P16.2: at the end the marker goes on until nothing is grey; with the barrier 1 alone it looks at the registers once more.
func TestEnd(t *testing.T) {
	h := heap("0 -", "1", "2", "3", "4", "5", "")
	askEach(t, "a long way", h, "mark", h, ";;;")
	askEach(t, "a long way, when some of it is done", h, "mark; mark; mark", h, ";;;")
	askEach(t, "the rest is cut when the marker is on its way", h, "mark; mark; load 1 0.0; load 1 1.0; write 1.0 -; copy 1 -", heap("0 -", "1", "2", "-", "4", "5", ""), "3 4 5;3 4 5;;")
	askEach(t, "the registers lead to a long way", h, "load 1 0.0; write 0.0 -", heap("0 1", "-", "2", "3", "4", "5", ""), "1 2 3 4 5;;;")
	askEach(t, "all registers are looked at", heap("0 - - -", "1 2 3", "", "", ""), "load 1 0.0; load 2 0.1; load 3 0.2; write 0.0 -; write 0.1 -; write 0.2 -", heap("0 1 2 3", "- - -", "", "", ""), "1 2 3;;;")
	askEach(t, "the first register is looked at", heap("0 -", "1", ""), "copy 1 0; load 0 0.0; write 1.0 -", heap("1 0", "-", ""), "1;;;")
	askEach(t, "as they are at the end", heap("0 -", "1", "2", ""), "load 1 0.0; write 0.0 -; load 1 1.0", heap("0 2", "-", "2", ""), "1 2;1;;")
	askEach(t, "what was at first is met, also if no register holds it at the end", heap("0 1", "", "2", ""), "copy 0 -; copy 1 -", heap("- -", "", "2", ""), ";;;")
}
