package buddy_test

import (
	"fmt"
	"math"
	"slices"
	"testing"

	"taskmill/api"
	"taskmill/buddy"
)

// P17.2: Take, told once each.
func TestTake(t *testing.T) {
	for _, c := range []struct {
		what             string
		bits             int
		used, free       string
		n                int
		thenUsed, thenIs string
		start            int
	}{
		{"the only unit", 0, "", "0+1", 1, "0+1", "", 0},
		{"a whole space", 3, "", "0+8", 8, "0+8", "", 0},
		{"more than half of it", 3, "", "0+8", 5, "0+8", "", 0},
		{"half of it", 3, "", "0+8", 4, "0+4", "4+4", 0},
		{"less than half", 3, "", "0+8", 3, "0+4", "4+4", 0},
		{"a fourth", 3, "", "0+8", 2, "0+2", "2+2 4+4", 0},
		{"one unit", 3, "", "0+8", 1, "0+1", "1+1 2+2 4+4", 0},
		{"no halving", 3, "0+1 2+2 4+4", "1+1", 1, "0+1 1+1 2+2 4+4", "", 1},
		{"no halving, though there is room to spare", 3, "0+4", "4+4", 3, "0+4 4+4", "", 4},
		{"one halving", 3, "0+4", "4+4", 2, "0+4 4+2", "6+2", 4},
		{"two halvings", 3, "0+4", "4+4", 1, "0+4 4+1", "5+1 6+2", 4},
		{"the least one, behind", 3, "6+1", "0+4 4+2 7+1", 1, "6+1 7+1", "0+4 4+2", 7},
		{"the least one, between", 3, "6+1", "0+4 4+2 7+1", 2, "4+2 6+1", "0+4 7+1", 4},
		{"the least one, ahead", 3, "1+1", "0+1 2+2 4+4", 1, "0+1 1+1", "2+2 4+4", 0},
		{"the least one that is large enough", 3, "0+1", "1+1 2+2 4+4", 2, "0+1 2+2", "1+1 4+4", 2},
		{"the largest one", 3, "0+1", "1+1 2+2 4+4", 3, "0+1 4+4", "1+1 2+2", 4},
		{"the largest one, ahead", 3, "6+1", "0+4 4+2 7+1", 4, "0+4 6+1", "4+2 7+1", 0},
		{"halved, though larger ones are ahead", 4, "8+4", "0+8 12+4", 1, "8+4 12+1", "0+8 13+1 14+2", 12},
		{"of two of a Size the first one", 2, "1+1 3+1", "0+1 2+1", 1, "0+1 1+1 3+1", "2+1", 0},
		{"of three of a Size the first one", 3, "0+1 3+1 4+1 7+1", "1+1 2+1 5+1 6+1", 1, "0+1 1+1 3+1 4+1 7+1", "2+1 5+1 6+1", 1},
		{"of two of a Size the first one, behind larger ones", 4, "8+2 12+2", "0+8 10+2 14+2", 2, "8+2 10+2 12+2", "0+8 14+2", 10},
		{"of two of a Size the first one is halved", 3, "2+2 6+2", "0+2 4+2", 1, "0+1 2+2 6+2", "1+1 4+2", 0},
		{"between used blocks", 3, "0+2 4+1 6+2", "2+2 5+1", 2, "0+2 2+2 4+1 6+2", "5+1", 2},
		{"ahead of all used blocks", 3, "2+2 4+4", "0+2", 1, "0+1 2+2 4+4", "1+1", 0},
		{"behind all used blocks, ahead of no free one", 3, "0+4 4+2", "6+2", 1, "0+4 4+2 6+1", "7+1", 6},
		{"halves between free blocks", 4, "4+4 12+2", "0+4 8+4 14+2", 3, "0+4 4+4 12+2", "8+4 14+2", 0},
		{"second halves between free blocks", 4, "4+1 6+2 12+4", "0+4 5+1 8+4", 2, "0+2 4+1 6+2 12+4", "2+2 5+1 8+4", 0},
	} {
		askTake(t, c.what, space(c.bits, c.used, c.free), c.n, space(c.bits, c.thenUsed, c.thenIs), c.start)
	}
}

// P17.2: how often a block is halved, and which half stays free: of a whole space, all n near powers of two.
func TestTakeHalves(t *testing.T) {
	for bits := range mostBits + 1 {
		for size := 1 << bits; size >= 1; size /= 2 {
			then := api.Space{Bits: bits, Used: []api.Block{{Size: size}}, Free: chain(size, size, 1<<bits/2)}
			for _, n := range []int{size, size - 1, size/2 + 1} {
				if n > size/2 {
					askTake(t, "of a whole space", newOf(t, bits), n, then, 0)
				}
			}
		}
	}
}

// P17.2: the same of the last block, behind used ones.
func TestTakeHalvesBehind(t *testing.T) {
	for bits := 1; bits <= mostBits; bits++ {
		half := 1 << bits / 2
		s := api.Space{Bits: bits, Used: []api.Block{{Size: half}}, Free: []api.Block{{Start: half, Size: half}}}
		for size := half; size >= 1; size /= 2 {
			then := api.Space{Bits: bits, Used: []api.Block{{Size: half}, {Start: half, Size: size}}, Free: chain(half+size, size, half/2)}
			askTake(t, "of the second half", s, size, then, half)
			askTake(t, "of the second half", s, size/2+1, then, half)
		}
		askTakeFault(t, "more than there is", s, half+1, fault(api.ErrNone, 0))
	}
}

// P17.2: n of less than 1 and more than 2^30 is told ahead of what is free; what is between and more than all units is not there.
func TestTakeUnits(t *testing.T) {
	for bits := range mostBits + 1 {
		s := newOf(t, bits)
		full, _ := takeOf(t, s, 1<<bits)
		for _, n := range append(far(), 1<<bits, 1<<bits+1, 1<<bits-1) {
			switch {
			case n < 1 || n > mostUnits:
				askTakeFault(t, "no number of units", s, n, fault(api.ErrRange, -1))
				askTakeFault(t, "no number of units, where nothing is free", full, n, fault(api.ErrRange, -1))
			case n > 1<<bits:
				askTakeFault(t, "more than all", s, n, fault(api.ErrNone, 0))
				askTakeFault(t, "more than all, where nothing is free", full, n, fault(api.ErrNone, 0))
			default:
				_, at := takeOf(t, s, n)
				same(t, "where it starts", at, 0)
				askTakeFault(t, "nothing is free", full, n, fault(api.ErrNone, 0))
			}
		}
	}
}

// P17.2: where free blocks together would do, and none alone does, there is none.
func TestTakeNone(t *testing.T) {
	for _, c := range []struct {
		what       string
		bits       int
		used, free string
		n          int
	}{
		{"nothing is free", 3, "0+8", "", 1},
		{"two that are no mates", 2, "0+1 3+1", "1+1 2+1", 2},
		{"all but one unit", 3, "0+1", "1+1 2+2 4+4", 5},
		{"all but one unit, for as many as there are", 3, "0+1", "1+1 2+2 4+4", 7},
		{"several of a Size", 3, "0+1 2+1 4+1 6+1", "1+1 3+1 5+1 7+1", 2},
		{"one unit more than the largest one", 4, "4+4", "0+4 8+8", 9},
		{"the largest one is used", 3, "0+4", "4+4", 5},
		{"side by side, as large as a used one", 4, "0+4 12+4", "4+4 8+4", 8},
	} {
		askTakeFault(t, c.what, space(c.bits, c.used, c.free), c.n, fault(api.ErrNone, 0))
	}
}

// P17.2: at most MaxList blocks.
func TestTakeMuch(t *testing.T) {
	for _, c := range []struct {
		n, start, halvings int
	}{
		{512, 512, 0}, {33, 512, 3}, {257, 512, 0}, {65, 512, 2}, {256, 512, 1}, {100, 512, 2},
		{32, 32, 0}, {17, 32, 0}, {16, 32, 1}, {9, 32, 1}, {8, 32, 2}, {5, 32, 2},
		{4, 4, 0}, {3, 4, 0}, {2, 4, 1}, {1, 4, 2},
	} {
		for below := range 5 {
			what := fmt.Sprint("MaxList - ", below)
			s := manyBlocks(t, api.MaxList-below)
			if c.halvings > below {
				askTakeFault(t, what, s, c.n, fault(api.ErrMuch, 0))
				continue
			}
			then, at, f := buddy.Take(s, c.n)
			same(t, what, told(len(then.Used)+len(then.Free), at, f), told(api.MaxList-below+c.halvings, c.start, none))
			same(t, what+": then", buddy.Check(then), none)
			if c.halvings == below { // it is full now
				same(t, what+": full", len(then.Used)+len(then.Free), api.MaxList)
			}
		}
	}
}

// P17.2: with MaxList blocks: what comes first of ErrRange, ErrNone and ErrMuch.
func TestTakeOrder(t *testing.T) {
	s := manyBlocks(t, api.MaxList)
	askTakeFault(t, "much", s, 1, fault(api.ErrMuch, 0))
	for _, n := range []int{math.MinInt, -1, 0, mostUnits + 1, math.MaxInt} {
		askTakeFault(t, "a range ahead of all", s, n, fault(api.ErrRange, -1))
	}
	for _, n := range []int{513, 1024, 5000, 8192, 8193, mostUnits} {
		askTakeFault(t, "none", s, n, fault(api.ErrNone, 0))
	}
	full := copied(s)
	full.Used, full.Free = slices.Concat(full.Used, full.Free), nil
	slices.SortFunc(full.Used, func(one, other api.Block) int { return one.Start - other.Start })
	askTakeFault(t, "nothing is free, and there are MaxList blocks", full, 1, fault(api.ErrNone, 0))
	askTakeFault(t, "a range, though nothing is free", full, 0, fault(api.ErrRange, -1))
	askTakeFault(t, "a range, though nothing is free", full, mostUnits+1, fault(api.ErrRange, -1))
}

// P17.2: Check's faults come ahead of all others.
func TestTakeChecks(t *testing.T) {
	for _, c := range []struct {
		s    api.Space
		want api.Fault
	}{
		{api.Space{Bits: -1, Free: units(0, 1)}, fault(api.ErrMany, 0)},
		{api.Space{Bits: 31, Free: []api.Block{{Size: 1 << 31}}}, fault(api.ErrMany, 0)},
		{manyBlocks(t, api.MaxList+1), fault(api.ErrMany, 0)},
		{space(1, "2+1", "0+2"), fault(api.ErrRange, 0)},
		{space(1, "0+1", "2+1"), fault(api.ErrRange, 1)},
		{space(1, "1+1 0+1", ""), fault(api.ErrForm, 0)},
		{space(1, "", "1+1 0+1"), fault(api.ErrForm, 1)},
		{space(1, "0+1", ""), fault(api.ErrSize, 0)},
		{space(1, "", "0+1 1+1"), fault(api.ErrState, 0)},
	} {
		for _, n := range append(far(), 13) {
			askTakeFault(t, "take", c.s, n, c.want)
			askGiveFault(t, "give", c.s, n, c.want)
		}
	}
}
