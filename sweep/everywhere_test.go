package sweep_test

import (
	"fmt"
	"math"
	"math/rand"
	"slices"
	"testing"

	"taskmill/api"
	"taskmill/sweep"
)

// askHeap holds what Check and Lost answer against what the words say.
func askHeap(t *testing.T, h api.Heap) int {
	t.Helper()
	want := checkByTheWords(h)
	var lost []int
	if want == none {
		lost = lostByTheWords(h)
	}
	list, f := sweep.Lost(h)
	if sweep.Check(h) != want || f != want || !slices.Equal(list, lost) {
		same(t, fmt.Sprintf("%.500s", fmt.Sprint(h)), told(sweep.Check(h), list, f), told(want, lost, want))
	}
	return want.Code
}

// askPlayed holds what Cycle answers against what the words say.
func askPlayed(t *testing.T, h api.Heap, barrier int, l []api.Act) ([]int, int) {
	t.Helper()
	then, white, f := cycleByTheWords(h, barrier, l)
	if f == none {
		askCycle(t, "played", h, barrier, l, then, white...)
	} else {
		askAct(t, "played", h, barrier, l, f)
	}
	return white, f.Code
}

// P16.1, at all small heaps, the right ones and those that are not.
func TestSmallHeaps(t *testing.T) {
	codes := map[int]int{}
	for _, h := range slices.Concat(
		allHeaps(0, 2, 0, []int{-2, -1, 0, 1}),
		allHeaps(1, 2, 3, []int{-2, -1, 0, 1}),
		allHeaps(2, 2, 2, []int{-2, -1, 0, 1, 2}),
		allHeaps(3, 1, 1, []int{-2, -1, 0, 1, 2, 3}),
		allHeaps(3, 2, 1, []int{-1, 0, 1, 2}),
		allHeaps(4, 1, 1, []int{-1, 0, 1, 2, 3}),
	) {
		codes[askHeap(t, h)]++
	}
	for _, code := range []int{api.OK, api.ErrRange, api.ErrForm} {
		if codes[code] < 1000 {
			t.Errorf("not all were asked: %v", codes)
		}
	}
}

// P16.2, at all small heaps of two objects and two registers, with all lists of two acts.
func TestShortCycles(t *testing.T) {
	var each []api.Act
	for a := range 2 {
		for c := -1; c < 2; c++ {
			each = append(each, api.Act{Op: api.GcWrite, A: a, C: c}, api.Act{Op: api.GcCopy, A: a, C: c}, api.Act{Op: api.GcLoad, A: a, C: c})
		}
		each = append(each, api.Act{Op: api.GcNew, A: a}, api.Act{Op: api.GcNew, A: a, B: 1})
	}
	each = append(each, api.Act{Op: api.GcMark})
	codes := map[int]int{}
	for _, h := range allHeaps(2, 2, 1, []int{-1, 0, 1}) {
		if len(h.Roots) < 2 {
			continue
		}
		for _, one := range each {
			for _, two := range each {
				for barrier := range barriers {
					_, code := askPlayed(t, h, barrier, []api.Act{one, two})
					codes[code]++
				}
			}
		}
	}
	if codes[api.OK] < 10000 || codes[api.ErrRange] < 10000 {
		t.Errorf("not all were asked: %v", codes)
	}
}

// P16.2, at all lists of six acts of those by which a program can hide something from the marker.
func TestShortHides(t *testing.T) {
	each := acts("load 1 0.0; copy 1 -; write 0.0 -; write 0.0 1; load 1 1.0; write 1.0 -; new 1 1; mark")
	h := heap("0 -", "1", "2", "")
	met := map[string]int{}
	var try func(l []api.Act)
	try = func(l []api.Act) {
		if len(rightOf(h, l)) < len(l) {
			return
		}
		var whites string
		for barrier := range barriers {
			white, _ := askPlayed(t, h, barrier, l)
			whites += fmt.Sprint(white)
		}
		met[whites]++
		if len(l) < 6 {
			for _, a := range each {
				try(append(slices.Clone(l), a))
			}
		}
	}
	try(nil)
	if len(met) < 8 {
		t.Errorf("only so much is white: %v", met)
	}
}

// P16.2, at any heaps and acts.
func TestAnyCycles(t *testing.T) {
	r := rand.New(rand.NewSource(343))
	codes, apart := map[int]int{}, [barriers]int{}
	for range 30000 {
		h := smallHeap(r)
		l := nearlyRightActs(r, h, r.Intn(20))
		var whites [barriers]string
		for barrier := range barriers {
			white, code := askPlayed(t, h, barrier, l)
			whites[barrier] = fmt.Sprint(white)
			codes[code]++
		}
		for barrier := range barriers {
			if whites[barrier] != whites[(barrier+1)%barriers] {
				apart[barrier]++
			}
		}
	}
	if codes[api.OK] < 10000 || codes[api.ErrRange] < 3000 || codes[api.ErrKind] < 500 {
		t.Errorf("not all were asked: %v", codes)
	}
	if apart[0] < 500 || apart[1] < 500 || apart[3] < 500 {
		t.Errorf("the barriers tell the same too often: %v", apart)
	}
}

// P16.2, at heaps and lists of acts as large as may be.
func TestLargeCycles(t *testing.T) {
	r := rand.New(rand.NewSource(344))
	for round := range 12 {
		h := anyHeap(r, mostObjects-r.Intn(300), mostRegisters-r.Intn(3), []int{2, 3, mostSlots}[round%3])
		l := rightActs(r, h, api.MaxOps)
		for barrier := range barriers {
			askPlayed(t, h, barrier, l)
			askPlayed(t, h, barrier, append(l[:api.MaxOps-1:api.MaxOps-1], api.Act{Op: 1 + r.Intn(5), A: 16}))
		}
	}
}

// rightOf are those acts that are right when those ahead are done.
func rightOf(h api.Heap, l []api.Act) []api.Act {
	var right []api.Act
	p := beginByTheWords(h, 0)
	for _, a := range l {
		if p.wrongByTheWords(a) == api.OK {
			p.do(a)
			right = append(right, a)
		}
	}
	return right
}

// wild are numbers far and near, of which many are limits, or just beyond.
func wild() []int {
	return []int{math.MinInt, math.MaxInt, -2, -1, 0, 1, 2, 3, 4, 5, 6, 15, 16, 17, 20, 21, 499, 500, 501, 5000, 5001, 1 << 32, 1<<32 + 1}
}

// P1: no call panics whatever it is given, and each answers what the document's words say, and the same again.
func TestWildInputs(t *testing.T) {
	r := rand.New(rand.NewSource(345))
	spoil := func(n *int) {
		if r.Intn(40) == 0 {
			*n = wild()[r.Intn(len(wild()))]
		}
	}
	checks, cycles := map[int]int{}, map[int]int{}
	const times = 30000
	for range times {
		h, barrier := smallHeap(r), r.Intn(barriers)
		l := rightActs(r, h, r.Intn(8))
		spoil(&barrier)
		if r.Intn(3) == 0 {
			spoilHeap(r, &h, spoil)
		}
		for at := range l {
			for _, n := range []*int{&l[at].Op, &l[at].A, &l[at].B, &l[at].C} {
				spoil(n)
			}
		}
		if r.Intn(80) == 0 {
			l = append(l, make([]api.Act, api.MaxOps-len(l)+r.Intn(2))...)
		}
		checks[askHeap(t, h)]++
		_, code := askPlayed(t, h, barrier, l)
		askPlayed(t, h, barrier, l)
		cycles[code]++
	}
	for _, code := range []int{api.OK, api.ErrMany, api.ErrRange, api.ErrSize, api.ErrForm} {
		if checks[code] < times/200 {
			t.Errorf("not all faults of Check were asked: %v", checks)
		}
	}
	for _, code := range []int{api.OK, api.ErrMany, api.ErrRange, api.ErrSize, api.ErrForm, api.ErrKind} {
		if cycles[code] < times/200 {
			t.Errorf("not all faults of Cycle were asked: %v", cycles)
		}
	}
}

// spoilHeap may make a heap a wrong one.
func spoilHeap(r *rand.Rand, h *api.Heap, spoil func(*int)) {
	for register := range h.Roots {
		spoil(&h.Roots[register])
	}
	for object, slots := range h.Objects {
		for slot := range slots {
			spoil(&slots[slot])
		}
		if r.Intn(30) == 0 {
			h.Objects[object] = append(slots, nothings(mostSlots-len(slots)+r.Intn(2))...)
		}
	}
	if r.Intn(20) == 0 {
		h.Roots = append(h.Roots, nothings(mostRegisters-len(h.Roots)+r.Intn(2))...)
	}
	if r.Intn(20) == 0 {
		h.Objects = append(h.Objects, make([][]int, mostObjects-len(h.Objects)+r.Intn(2))...)
	}
}

// P1: the farthest numbers, everywhere at once.
func TestFarthest(t *testing.T) {
	for _, n := range wild() {
		for _, h := range []api.Heap{
			{Roots: []int{n}}, {Objects: [][]int{{n}}}, {Objects: [][]int{{n}}, Roots: []int{n}}, {Objects: [][]int{{0}, {n, n}}, Roots: []int{0, n}},
			heap("0 -", "0 1", "-"),
		} {
			askHeap(t, h)
			for op := range 7 {
				for barrier := -1; barrier <= barriers; barrier++ {
					askPlayed(t, h, barrier, []api.Act{{Op: op, A: n, B: n, C: n}})
					askPlayed(t, h, barrier, []api.Act{{Op: n, A: op, B: n, C: n}, {Op: op}})
				}
				askPlayed(t, h, n, []api.Act{{Op: op, A: n, B: n, C: n}, {Op: op, A: n}, {Op: op, B: n}, {Op: op, C: n}})
			}
		}
	}
}
