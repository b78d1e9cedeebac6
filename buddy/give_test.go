package buddy_test

import (
	"fmt"
	"slices"
	"testing"

	"taskmill/api"
	"taskmill/buddy"
)

// P17.3: Give, told once each.
func TestGive(t *testing.T) {
	for _, c := range []struct {
		what             string
		bits             int
		used, free       string
		start            int
		thenUsed, thenIs string
	}{
		{"the only unit", 0, "0+1", "", 0, "", "0+1"},
		{"a whole space", 3, "0+8", "", 0, "", "0+8"},
		{"its mate is used", 1, "0+1 1+1", "", 0, "1+1", "0+1"},
		{"its mate, ahead, is used", 1, "0+1 1+1", "", 1, "0+1", "1+1"},
		{"its mate is free", 1, "0+1", "1+1", 0, "", "0+2"},
		{"its mate, ahead, is free", 1, "1+1", "0+1", 1, "", "0+2"},
		{"its mate is parted", 2, "0+2 2+1 3+1", "", 0, "2+1 3+1", "0+2"},
		{"its mate is parted, its first half free", 2, "0+2 3+1", "2+1", 0, "3+1", "0+2 2+1"},
		{"its mate is parted, its second half free", 2, "0+2 2+1", "3+1", 0, "2+1", "0+2 3+1"},
		{"its mate, ahead, is parted", 2, "0+1 2+2", "1+1", 2, "0+1", "1+1 2+2"},
		{"its mate, ahead, is parted, and free beside it no more than half", 3, "0+2 4+4", "2+2", 4, "0+2", "2+2 4+4"},
		{"free beside it is no mate of it", 2, "0+1 2+1 3+1", "1+1", 2, "0+1 3+1", "1+1 2+1"},
		{"free beside it, behind, is no mate of it", 2, "0+1 1+1 3+1", "2+1", 1, "0+1 3+1", "1+1 2+1"},
		{"free on both sides is one mate", 3, "2+1 4+4", "0+2 3+1", 2, "4+4", "0+4"},
		{"free on both sides is no mate", 4, "0+2 4+2 6+2 10+2 12+4", "2+2 8+2", 4, "0+2 6+2 10+2 12+4", "2+2 4+2 8+2"},
		{"two sizes", 2, "0+1", "1+1 2+2", 0, "", "0+4"},
		{"two sizes, and the larger mate is used", 3, "0+1 4+4", "1+1 2+2", 0, "4+4", "0+4"},
		{"one size, as the larger mate is used", 2, "0+1 2+2", "1+1", 0, "2+2", "0+2"},
		{"one size, as the larger mate is parted", 2, "0+1 2+1", "1+1 3+1", 0, "2+1", "0+2 3+1"},
		{"three sizes, up to the whole", 3, "0+1", "1+1 2+2 4+4", 0, "", "0+8"},
		{"three sizes, from the end", 3, "7+1", "0+4 4+2 6+1", 7, "", "0+8"},
		{"three sizes, from the middle", 3, "3+1", "0+2 2+1 4+4", 3, "", "0+8"},
		{"three sizes, from behind the middle", 3, "4+1", "0+4 5+1 6+2", 4, "", "0+8"},
		{"others stay as they are", 4, "0+1 3+1 8+2 14+2", "1+1 2+1 4+4 10+2 12+2", 8, "0+1 3+1 14+2", "1+1 2+1 4+4 8+4 12+2"},
		{"others stay, ahead and behind", 4, "0+4 5+1 8+4", "4+1 6+2 12+4", 5, "0+4 8+4", "4+4 12+4"},
		{"the first of several", 2, "0+1 1+1 2+1 3+1", "", 0, "1+1 2+1 3+1", "0+1"},
		{"one between", 2, "0+1 1+1 2+1 3+1", "", 2, "0+1 1+1 3+1", "2+1"},
		{"the last of several", 2, "0+1 1+1 2+1 3+1", "", 3, "0+1 1+1 2+1", "3+1"},
	} {
		askGive(t, c.what, space(c.bits, c.used, c.free), c.start, space(c.bits, c.thenUsed, c.thenIs))
	}
}

// P17.3: both become one over as many sizes as there are, from each place.
func TestGiveJoins(t *testing.T) {
	for bits := range mostBits + 1 {
		whole := 1 << bits
		first := api.Space{Bits: bits, Used: units(0, 1), Free: chain(1, 1, whole/2)}
		askGive(t, "from the first unit", first, 0, newOf(t, bits))
		last := api.Space{Bits: bits, Used: units(whole-1, 1)}
		for half := whole / 2; half >= 1; half /= 2 {
			last.Free = append(last.Free, api.Block{Start: whole - 2*half, Size: half})
		}
		askGive(t, "from the last unit", last, whole-1, newOf(t, bits))
		for size := 1; size < whole; size *= 2 { // one free block is used
			for _, s := range []api.Space{first, last} {
				s = copied(s)
				at := slices.IndexFunc(s.Free, func(one api.Block) bool { return one.Size == size })
				used, one := s.Free[at], s.Used[0]
				s.Free = slices.Delete(s.Free, at, at+1)
				s.Used = append(s.Used, used)
				slices.SortFunc(s.Used, func(one, other api.Block) int { return one.Start - other.Start })
				then := api.Space{Bits: bits, Used: []api.Block{used}}
				for _, free := range s.Free {
					if free.Size > size {
						then.Free = append(then.Free, free)
					}
				}
				then.Free = append(then.Free, api.Block{Start: used.Start ^ size, Size: size})
				slices.SortFunc(then.Free, func(one, other api.Block) int { return one.Start - other.Start })
				askGive(t, fmt.Sprint("up to ", size), s, one.Start, then)
			}
		}
	}
}

// P17.3: where no used block starts there is none.
func TestGiveNone(t *testing.T) {
	for _, c := range []struct {
		what       string
		bits       int
		used, free string
		starts     []int
	}{
		{"nothing is used", 3, "", "0+8", []int{-8, -1, 0, 1, 4, 7, 8, 9}},
		{"nothing is used, of one unit", 0, "", "0+1", []int{-1, 0, 1}},
		{"inside a used one", 3, "0+8", "", []int{1, 2, 3, 4, 5, 6, 7}},
		{"inside several used ones", 3, "0+2 2+2 4+4", "", []int{1, 3, 5, 6, 7}},
		{"a free one", 3, "0+1", "1+1 2+2 4+4", []int{1, 2, 4}},
		{"inside a free one", 3, "0+1", "1+1 2+2 4+4", []int{3, 5, 6, 7}},
		{"a free one between", 2, "0+1 3+1", "1+1 2+1", []int{1, 2}},
		{"a free one ahead", 2, "2+2", "0+2", []int{0, 1, 3}},
		{"below 0 and behind the end", 2, "0+1 1+1 2+1 3+1", "", []int{-4, -3, -2, -1, 4, 5, 6, 8}},
		{"a size", 3, "0+4 4+2 6+2", "", []int{2, 8}},
	} {
		for _, start := range c.starts {
			askGiveFault(t, c.what, space(c.bits, c.used, c.free), start, fault(api.ErrNone, 0))
		}
	}
	for bits := range mostBits + 1 {
		whole := 1 << bits
		s := api.Space{Bits: bits, Used: []api.Block{{Size: whole}}}
		for _, start := range append(far(), whole, whole/2, whole-1, -whole, 2*whole) {
			if start == 0 {
				askGive(t, "a whole space", s, 0, newOf(t, bits))
			} else {
				askGiveFault(t, "not where it starts", s, start, fault(api.ErrNone, 0))
			}
			askGiveFault(t, "nothing is used", newOf(t, bits), start, fault(api.ErrNone, 0))
		}
	}
}

// P17.3: with MaxList blocks: each used one, and nothing but these, can be given.
func TestGiveMany(t *testing.T) {
	s := manyBlocks(t, api.MaxList)
	starts := map[int]int{}
	for _, one := range s.Used {
		starts[one.Start] = one.Size
	}
	for start := -7; start <= 1<<s.Bits; start += 3 {
		size, there := starts[start]
		if !there {
			askGiveFault(t, "none", s, start, fault(api.ErrNone, 0))
			continue
		}
		then := giveOf(t, s, start)
		same(t, "then", buddy.Check(then), none)
		same(t, "how many are used", len(then.Used), len(s.Used)-1)
		same(t, "how much is free", sizes(then.Free), sizes(s.Free)+size)
	}
}

// sizes are all together.
func sizes(list []api.Block) int {
	sum := 0
	for _, one := range list {
		sum += one.Size
	}
	return sum
}
