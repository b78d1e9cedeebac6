package buddy_test

import (
	"fmt"
	"math/rand"
	"slices"
	"testing"

	"taskmill/api"
	"taskmill/buddy"
)

// The chapter's examples.
func TestExamples(t *testing.T) {
	s, f := buddy.New(3)
	same(t, "new", told(s, f), told(space(3, "", "0+8"), none))
	then, start, f := buddy.Take(s, 3)
	same(t, "take", told(then, start, f), told(space(3, "0+4", "4+4"), 0, none))
}

// inBlocks counts of each unit in how many blocks it is.
func inBlocks(s api.Space) []int {
	in := make([]int, 1<<s.Bits)
	for _, one := range slices.Concat(s.Used, s.Free) {
		for n := range one.Size {
			in[one.Start+n]++
		}
	}
	return in
}

// permutations are all orders of some numbers.
func permutations(list []int) [][]int {
	if len(list) == 0 {
		return [][]int{nil}
	}
	var all [][]int
	for at, first := range list {
		rest := slices.Delete(slices.Clone(list), at, at+1)
		for _, one := range permutations(rest) {
			all = append(all, append([]int{first}, one...))
		}
	}
	return all
}

// startsOf are those of the used blocks.
func startsOf(s api.Space) []int {
	var list []int
	for _, one := range s.Used {
		list = append(list, one.Start)
	}
	return list
}

// What follows: no unit is in two blocks, whatever is taken and given back; what was given may be taken again.
func TestNoUnitIsInTwoBlocks(t *testing.T) {
	r := rand.New(rand.NewSource(371))
	full := 0
	for range 400 {
		bits := r.Intn(9)
		s := newOf(t, bits)
		owner := map[int]int{} // of each unit that is used, where its block starts
		for range 60 {
			if r.Intn(5) < 2 && len(s.Used) > 0 {
				one := s.Used[r.Intn(len(s.Used))]
				s = giveOf(t, s, one.Start)
				for n := range one.Size {
					delete(owner, one.Start+n)
				}
			} else {
				n := 1 + r.Intn(1<<r.Intn(bits+1))
				then, start, f := buddy.Take(s, n)
				if f != none {
					full++
					continue
				}
				s = then
				for unit := start; unit < start+n; unit++ {
					if of, there := owner[unit]; there {
						t.Fatalf("unit %d is taken from %d and from %d", unit, of, start)
					}
				}
				at := slices.IndexFunc(s.Used, func(one api.Block) bool { return one.Start == start })
				if size := s.Used[at].Size; size < n || size/2 >= n {
					t.Fatalf("%d units for %d", size, n)
				}
				for unit := range s.Used[at].Size {
					owner[start+unit] = start
				}
			}
			in := inBlocks(s)
			if slices.Min(in) != 1 || slices.Max(in) != 1 || sizes(s.Used) != len(owner) || buddy.Check(s) != none {
				t.Fatalf("%v: %v, %d are used, %v", s, in, len(owner), buddy.Check(s))
			}
		}
	}
	if full < 1000 {
		t.Errorf("only %d times there was no room", full)
	}
}

// What follows: when all is given back there is one block again, in all orders.
func TestAllGivenBack(t *testing.T) {
	orders := 0
	for _, s := range slices.Concat(allSpaces(0), allSpaces(1), allSpaces(2), allSpaces(3)) {
		if len(s.Used) > 6 {
			continue
		}
		for _, order := range permutations(startsOf(s)) {
			then := s
			for _, start := range order {
				then = giveOf(t, then, start)
			}
			orders++
			if !alike(then, newOf(t, s.Bits)) {
				same(t, fmt.Sprint("given back by ", order), then, newOf(t, s.Bits))
			}
		}
	}
	if orders < 10000 {
		t.Errorf("only %d orders", orders)
	}
}

// What follows: the same of large spaces, and of those with as many blocks as may be, in any order.
func TestAllGivenBackLarge(t *testing.T) {
	r := rand.New(rand.NewSource(372))
	for round := range 300 {
		s := anySpace(r, r.Intn(mostBits+1), 1+r.Intn(40))
		if round < 2 {
			s = manyBlocks(t, api.MaxList)
		}
		whole, order := newOf(t, s.Bits), startsOf(s)
		switch round % 4 {
		case 0, 1:
			r.Shuffle(len(order), func(i, k int) { order[i], order[k] = order[k], order[i] })
		case 2:
			slices.Reverse(order)
		}
		for _, start := range order {
			s = giveOf(t, s, start)
		}
		same(t, "given back", s, whole)
	}
}

// What follows: units taken one by one, each where the one ahead ends, until all are used, and given back.
func TestUnitsOneByOne(t *testing.T) {
	for bits := range 10 {
		s := newOf(t, bits)
		for unit := range 1 << bits {
			var start int
			s, start = takeOf(t, s, 1)
			if start != unit || !slices.Equal(s.Used, units(0, unit+1)) {
				t.Fatalf("unit %d of %d: %d, %v", unit, bits, start, s)
			}
		}
		askTakeFault(t, "all are used", s, 1, fault(api.ErrNone, 0))
		same(t, "all are used", s, api.Space{Bits: bits, Used: units(0, 1<<bits)})
		for unit := 0; unit < 1<<bits; unit += 2 {
			s = giveOf(t, s, unit)
		}
		same(t, "each second one is free", len(s.Free), (1<<bits+1)/2)
		if bits > 1 {
			askTakeFault(t, "there is no room for two", s, 2, fault(api.ErrNone, 0))
		}
		for unit := 1; unit < 1<<bits; unit += 2 {
			s = giveOf(t, s, unit)
		}
		same(t, "all are free", s, newOf(t, bits))
	}
}

// What follows: what was taken last, and is given back first, leaves the space as it was: in all small spaces.
func TestTakenAndGivenBack(t *testing.T) {
	asked := 0
	for _, s := range slices.Concat(allSpaces(0), allSpaces(1), allSpaces(2), allSpaces(3)) {
		for n := 1; n <= 1<<s.Bits; n++ {
			then, start, f := buddy.Take(s, n)
			if f != none {
				continue
			}
			asked++
			askGive(t, "taken and given back", then, start, s)
		}
	}
	if asked < 1000 {
		t.Errorf("only %d", asked)
	}
	for _, below := range []int{0, 1, 2, 3} {
		s := manyBlocks(t, api.MaxList-below)
		for _, n := range []int{1, 2, 3, 4, 7, 8, 9, 16, 17, 32, 33, 128, 129, 256, 257, 512} {
			if then, start, f := buddy.Take(s, n); f == none {
				askGive(t, "taken and given back", then, start, s)
			}
		}
	}
}

// What follows: the same of several that are given back the other way round, each time as it was ahead.
func TestGivenBackTheOtherWayRound(t *testing.T) {
	r := rand.New(rand.NewSource(373))
	taken := 0
	for range 1000 {
		s := smallSpace(r)
		var ahead []api.Space
		var starts []int
		for range 1 + r.Intn(30) {
			then, start, f := buddy.Take(s, anyUnits(r, s))
			if f != none {
				continue
			}
			ahead, starts = append(ahead, s), append(starts, start)
			s = then
		}
		taken += len(starts)
		for at := len(starts) - 1; at >= 0; at-- {
			askGive(t, "given back", s, starts[at], ahead[at])
			s = giveOf(t, s, starts[at])
		}
	}
	if taken < 3000 {
		t.Errorf("only %d were taken", taken)
	}
}

// What is answered is a space of which nothing is wrong, and which is gone on with.
func TestSpacesThen(t *testing.T) {
	r := rand.New(rand.NewSource(374))
	for range 3000 {
		s := smallSpace(r)
		for range 10 {
			then, _, f := buddy.Take(s, anyUnits(r, s))
			if r.Intn(2) == 0 {
				then, f = buddy.Give(s, anyStart(r, s))
			}
			if f != none {
				continue
			}
			if c := buddy.Check(then); c != none || then.Bits != s.Bits {
				t.Fatalf("%v then: %v, %v", s, then, c)
			}
			s = then
		}
	}
}
