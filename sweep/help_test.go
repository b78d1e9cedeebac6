package sweep_test

import (
	"fmt"
	"math"
	"slices"
	"strconv"
	"strings"
	"testing"

	"taskmill/api"
	"taskmill/sweep"
)

// What the chapter names, and package api does not.
const (
	mostObjects   = 500
	mostRegisters = 16
	mostSlots     = 20
	barriers      = 4 // from 0 on
)

func fault(code, at int) api.Fault { return api.Fault{Code: code, At: at} }

var none = api.Fault{}

// number is written as such; - is none.
func number(word string) int {
	if word == "-" {
		return -1
	}
	n, err := strconv.Atoi(word)
	if err != nil {
		panic(word)
	}
	return n
}

func numbers(text string) []int {
	var list []int
	for _, word := range strings.Fields(text) {
		list = append(list, number(word))
	}
	return list
}

// heap is written as what its registers hold, and then what the slots of each object hold.
func heap(roots string, objects ...string) api.Heap {
	h := api.Heap{Roots: numbers(roots)}
	for _, slots := range objects {
		h.Objects = append(h.Objects, numbers(slots))
	}
	return h
}

// acts are written with `; ` between them: write A.B C; load A C.B; copy A C; new A B; mark. A slot is written as a register with its object, a dot and the slot's number.
func acts(text string) []api.Act {
	var list []api.Act
	for _, one := range strings.Split(text, "; ") {
		if words := strings.Fields(one); len(words) > 0 {
			list = append(list, actOf(words[0], words[1:]))
		}
	}
	return list
}

func actOf(op string, words []string) api.Act {
	switch op {
	case "write":
		register, slot := slotOf(words[0])
		return api.Act{Op: api.GcWrite, A: register, B: slot, C: number(words[1])}
	case "load":
		register, slot := slotOf(words[1])
		return api.Act{Op: api.GcLoad, A: number(words[0]), B: slot, C: register}
	case "copy":
		return api.Act{Op: api.GcCopy, A: number(words[0]), C: number(words[1])}
	case "new":
		return api.Act{Op: api.GcNew, A: number(words[0]), B: number(words[1])}
	case "mark":
		return api.Act{Op: api.GcMark}
	}
	panic(op)
}

func slotOf(word string) (register, slot int) {
	before, after, _ := strings.Cut(word, ".")
	return number(before), number(after)
}

// marks are so many acts of the marker.
func marks(many int) []api.Act {
	return slices.Repeat(acts("mark"), many)
}

// empties are so many objects without slots, with these registers.
func empties(many int, roots ...int) api.Heap {
	return api.Heap{Objects: make([][]int, many), Roots: roots}
}

// nothings are so many slots, or registers, that hold none.
func nothings(many int) []int {
	return slices.Repeat([]int{-1}, many)
}

// upTo are the numbers below many, rising.
func upTo(many int) []int {
	var list []int
	for n := range many {
		list = append(list, n)
	}
	return list
}

// far are numbers that are no register, no slot, no object, no barrier and no Op.
func far() []int {
	return []int{-2, -3, math.MinInt, math.MinInt + 1, 21, 501, 1 << 32, 1<<32 + 1, 1<<32 + 2, math.MaxInt}
}

// copied is a heap of the same, in memory of its own.
func copied(h api.Heap) api.Heap {
	h.Roots, h.Objects = slices.Clone(h.Roots), slices.Clone(h.Objects)
	for object, slots := range h.Objects {
		h.Objects[object] = slices.Clone(slots)
	}
	return h
}

// askFault asks all three calls: each tells first what Check says, and nothing beside it.
func askFault(t *testing.T, what string, h api.Heap, want api.Fault) {
	t.Helper()
	same(t, what+": check", sweep.Check(h), want)
	list, f := sweep.Lost(h)
	same(t, what+": lost", told(list, f), told([]int{}, want))
	for barrier := -1; barrier <= barriers; barrier++ {
		for _, l := range [][]api.Act{nil, marks(1), {{Op: 9}}, acts("new 0 1; write 0.0 -"), acts("write 0.0 7"), marks(api.MaxOps + 1)} {
			then, white, f := sweep.Cycle(h, barrier, l)
			same(t, fmt.Sprint(what, ": cycle ", barrier, len(l)), told(then, white, f), told(api.Heap{}, []int{}, want))
		}
	}
}

// askRight asks Check whether nothing is wrong; Lost and Cycle tell nothing of Check's then.
func askRight(t *testing.T, what string, h api.Heap) {
	t.Helper()
	same(t, what+": check", sweep.Check(h), none)
	askLost(t, what, h, lostByTheWords(h)...)
}

// askLost asks Lost; and so tells a cycle in which nothing is done.
func askLost(t *testing.T, what string, h api.Heap, want ...int) {
	t.Helper()
	list, f := sweep.Lost(h)
	same(t, what+": lost", told(list, f), told(want, none))
	for barrier := range barriers {
		askCycle(t, what+": cycle", h, barrier, nil, h, want...)
	}
}

// askCycle asks for the heap then, and for the objects that are white.
func askCycle(t *testing.T, what string, h api.Heap, barrier int, l []api.Act, then api.Heap, want ...int) {
	t.Helper()
	got, white, f := sweep.Cycle(h, barrier, l)
	if alike(got, then) && slices.Equal(white, want) && f == none {
		return // most tests are many of these: telling them takes long
	}
	same(t, fmt.Sprintf("%s: cycle %d of %.300s by %.300s", what, barrier, fmt.Sprint(h), fmt.Sprint(l)), told(got, white, f), told(then, want, none))
}

// askEach asks what is white with each barrier, written with `; ` between them, and that the heap then is always the same.
func askEach(t *testing.T, what string, h api.Heap, text string, then api.Heap, white string) {
	t.Helper()
	for barrier, list := range strings.Split(white, ";") {
		askCycle(t, fmt.Sprint(what, " ", text), h, barrier, acts(text), then, numbers(list)...)
	}
}

// askActs asks for what is wrong with acts, whatever the barrier is.
func askActs(t *testing.T, what string, h api.Heap, l []api.Act, want api.Fault) {
	t.Helper()
	for barrier := range barriers {
		askAct(t, what, h, barrier, l, want)
	}
}

// askAct asks for what is wrong with acts, beside which nothing is told.
func askAct(t *testing.T, what string, h api.Heap, barrier int, l []api.Act, want api.Fault) {
	t.Helper()
	then, white, f := sweep.Cycle(h, barrier, l)
	if want == none {
		then, white = api.Heap{}, nil
	}
	same(t, fmt.Sprintf("%s: %d %.300s", what, barrier, fmt.Sprint(l)), told(then, white, f), told(api.Heap{}, []int{}, want))
}

// alike: do two heaps hold the same?
func alike(one, other api.Heap) bool {
	return slices.Equal(one.Roots, other.Roots) && slices.EqualFunc(one.Objects, other.Objects, slices.Equal[[]int])
}

func told(parts ...any) string { return fmt.Sprintln(parts...) }

// same holds two things against each other as they are told: nil and empty lists are the same.
func same(t *testing.T, what string, got, want any) {
	t.Helper()
	if g, w := fmt.Sprint(got), fmt.Sprint(want); g != w {
		t.Errorf("%s:\n got %.1500s\nwant %.1500s", what, g, w)
	}
}
