package sweep_test

import (
	"fmt"
	"math/rand"
	"slices"
	"testing"

	"taskmill/api"
	"taskmill/sweep"
)

// roomy is a list with more behind its length, which nobody may read or write.
func roomy[T any](list []T, behind T) []T {
	return append(slices.Clone(list), behind, behind, behind)[:len(list)]
}

// whole is a list with what lies behind its length.
func whole[T any](list []T) []T { return list[:cap(list)] }

// roomyHeap is a heap of roomy lists.
func roomyHeap(h api.Heap, behind int) api.Heap {
	h.Roots, h.Objects = roomy(h.Roots, behind), roomy(h.Objects, []int{behind})
	for object, slots := range h.Objects {
		h.Objects[object] = roomy(slots, behind)
	}
	return h
}

// wholeHeap tells of a heap with what lies behind all its lists.
func wholeHeap(h api.Heap) string {
	text := fmt.Sprint(whole(h.Roots))
	for _, slots := range whole(h.Objects) {
		text += fmt.Sprint(whole(slots))
	}
	return text
}

// answers are what all calls answer, told.
func answers(h api.Heap, barrier int, l []api.Act) string {
	lost, f := sweep.Lost(h)
	then, white, g := sweep.Cycle(h, barrier, l)
	return told(sweep.Check(h), lost, f, then, white, g)
}

// Lists that are handed in are only read, and what lies behind their length is neither read nor written.
func TestListsAreOnlyRead(t *testing.T) {
	r := rand.New(rand.NewSource(361))
	for range 3000 {
		h, barrier := smallHeap(r), r.Intn(barriers)
		l := nearlyRightActs(r, h, r.Intn(20))
		if r.Intn(10) == 0 && len(h.Roots) > 0 {
			h.Roots[r.Intn(len(h.Roots))] = 99
		}
		before := fmt.Sprint(h, l)
		want := answers(copied(h), barrier, slices.Clone(l))
		same(t, "the answers", answers(h, barrier, l), want)
		same(t, "what was handed in", fmt.Sprint(h, l), before)
		for _, behind := range []int{-1, 0, 99} {
			short, shortActs := roomyHeap(h, behind), roomy(l, api.Act{Op: behind})
			before := wholeHeap(short) + fmt.Sprint(whole(shortActs))
			same(t, "the answers", answers(short, barrier, shortActs), want)
			same(t, "what was handed in", wholeHeap(short)+fmt.Sprint(whole(shortActs)), before)
			same(t, "how many were handed in", fmt.Sprint(short, shortActs), fmt.Sprint(h, l))
		}
	}
}

// What lies behind a list's length is no object, no register, no slot and no act.
func TestBehindIsNothing(t *testing.T) {
	askLost(t, "a register behind", api.Heap{Objects: make([][]int, 2), Roots: []int{0, 1}[:1]}, 1)
	askLost(t, "a slot behind", api.Heap{Objects: [][]int{[]int{-1, 1}[:1], {}}, Roots: []int{0}}, 1)
	askFault(t, "an object behind", api.Heap{Objects: make([][]int, 2)[:1], Roots: []int{1}}, fault(api.ErrRange, 0))
	askRight(t, "a wrong register behind", api.Heap{Objects: make([][]int, 1), Roots: []int{0, 9}[:1]})
	askRight(t, "a wrong slot behind", api.Heap{Objects: [][]int{[]int{0, 9}[:1]}})
	askRight(t, "too many behind", api.Heap{Objects: make([][]int, mostObjects+1)[:mostObjects], Roots: nothings(mostRegisters + 1)[:mostRegisters]})
	askRight(t, "too many slots behind", api.Heap{Objects: [][]int{nothings(mostSlots + 1)[:mostSlots]}})
	h := api.Heap{Objects: [][]int{[]int{0, 0}[:1]}, Roots: []int{0, 0}[:1]}
	askActs(t, "an act that is wrong behind", h, marks(3)[:2], none)
	askActs(t, "too many acts behind", h, marks(api.MaxOps + 1)[:api.MaxOps], none)
	askActs(t, "a register behind", h, acts("copy 0 1"), fault(api.ErrRange, 0))
	askActs(t, "a slot behind", h, acts("write 0.1 0"), fault(api.ErrRange, 0))
}

// nil and empty lists are the same.
func TestEmptyLists(t *testing.T) {
	for _, roots := range [][]int{nil, {}, make([]int, 0, 20)} {
		for _, objects := range [][][]int{nil, {}, make([][]int, 0, 20), {nil}, {{}}, {make([]int, 0, 20)}} {
			for _, l := range [][]api.Act{nil, {}, make([]api.Act, 0, 20)} {
				h := api.Heap{Objects: objects, Roots: roots}
				askLost(t, "lost", h, upTo(len(objects))...)
				for barrier := range barriers {
					askCycle(t, "cycle", h, barrier, l, h, upTo(len(objects))...)
				}
			}
		}
	}
}

// listsOf are all lists of an answer.
func listsOf(h api.Heap, white []int) [][]int {
	return append(slices.Clone(h.Objects), h.Roots, white)
}

// spoil writes over all the memory of a list, also behind its length.
func spoil[T any](list []T, with T) {
	for i := range whole(list) {
		whole(list)[i] = with
	}
}

// What is answered is new memory, no two lists of one answer share any, and none is kept.
func TestAnswersAreNewMemory(t *testing.T) {
	r := rand.New(rand.NewSource(362))
	for range 2000 {
		h, barrier := smallHeap(r), r.Intn(barriers)
		l := rightActs(r, h, r.Intn(12)*r.Intn(2))
		given := fmt.Sprint(h, l)
		want := answers(h, barrier, l)
		lost, _ := sweep.Lost(h)
		then, white, _ := sweep.Cycle(h, barrier, l)
		ahead := fmt.Sprint(lost)
		for n, one := range listsOf(then, white) {
			was := slices.Clone(one)
			rest := listsOf(then, white)
			rest[n] = nil
			before := fmt.Sprint(rest)
			spoil(one, 77)
			same(t, "the other lists of the answer", fmt.Sprint(rest), before)
			copy(one, was)
		}
		for n := range then.Objects {
			spoil(then.Objects[n], 77)
		}
		spoil(then.Objects, []int{77})
		spoil(then.Roots, 77)
		spoil(white, 77)
		same(t, "what was handed in", fmt.Sprint(h, l), given)
		same(t, "the answer ahead", fmt.Sprint(lost), ahead)
		same(t, "the next answer", answers(h, barrier, l), want)
		spoil(lost, 77)
		same(t, "what was handed in", fmt.Sprint(h, l), given)
		same(t, "the next answer", answers(h, barrier, l), want)
	}
}

// What was answered stays as it is, when what was handed in is changed.
func TestNothingHandedInIsKept(t *testing.T) {
	r := rand.New(rand.NewSource(363))
	for range 2000 {
		h, barrier := smallHeap(r), r.Intn(barriers)
		l := rightActs(r, h, r.Intn(12)*r.Intn(2))
		lost, _ := sweep.Lost(h)
		then, white, _ := sweep.Cycle(h, barrier, l)
		want := fmt.Sprint(lost, then, white)
		for _, slots := range h.Objects {
			spoil(slots, 77)
		}
		spoil(h.Objects, []int{77})
		spoil(h.Roots, 77)
		spoil(l, api.Act{Op: 77})
		same(t, "the answer", fmt.Sprint(lost, then, white), want)
	}
}

// What is answered hangs on the arguments alone, not on what was asked ahead.
func TestNothingIsKept(t *testing.T) {
	h := heap("0 -", "1", "")
	for range 3 {
		askLost(t, "lost", h)
		askEach(t, "hidden", h, "load 1 0.0; write 0.0 -", heap("0 1", "-", ""), "1;;;")
		askActs(t, "wrong", h, acts("new 1 1; new 2 0"), fault(api.ErrRange, 1))
		askEach(t, "new", h, "new 1 0", heap("0 2", "1", "", ""), ";;;")
		askLost(t, "another heap", heap("1", "1", ""), 0)
		askFault(t, "wrong", heap("2", "1", ""), fault(api.ErrRange, 0))
	}
}
