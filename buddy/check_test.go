package buddy_test

import (
	"fmt"
	"math"
	"slices"
	"testing"

	"taskmill/api"
	"taskmill/buddy"
)

// P17.1: spaces of which nothing is wrong.
func TestCheckRight(t *testing.T) {
	for _, c := range []struct {
		what string
		s    api.Space
	}{
		{"one unit, free", space(0, "", "0+1")},
		{"one unit, used", space(0, "0+1", "")},
		{"two units, free", space(1, "", "0+2")},
		{"two units, used", space(1, "0+2", "")},
		{"two used mates", space(1, "0+1 1+1", "")},
		{"a free mate behind a used one", space(1, "0+1", "1+1")},
		{"a used mate behind a free one", space(1, "1+1", "0+1")},
		{"all sizes, the least one first", space(3, "0+1", "1+1 2+2 4+4")},
		{"all sizes, the least one last", space(3, "7+1", "0+4 4+2 6+1")},
		{"free blocks side by side that are no mates", space(2, "0+1 3+1", "1+1 2+1")},
		{"free blocks side by side of other sizes", space(2, "0+1", "1+1 2+2")},
		{"free blocks of the same size apart", space(2, "1+1 3+1", "0+1 2+1")},
		{"a mate that is parted", space(2, "2+1 3+1", "0+2")},
		{"a mate that is parted, partly free", space(2, "2+1", "0+2 3+1")},
		{"both lists by turns", space(3, "1+1 3+1 5+1 7+1", "0+1 2+1 4+1 6+1")},
		{"as many units as may be, free", space(30, "", "0+1073741824")},
		{"as many units as may be, used", space(30, "0+1073741824", "")},
		{"as many units as may be, by halves", api.Space{Bits: 30, Used: units(0, 1), Free: chain(1, 1, mostUnits/2)}},
	} {
		askRight(t, c.what, c.s)
	}
}

// P17.1: Bits from 0 to 30.
func TestCheckBits(t *testing.T) {
	for bits := range mostBits + 1 {
		askRight(t, fmt.Sprint(bits, ", free"), api.Space{Bits: bits, Free: []api.Block{{Size: 1 << bits}}})
		askRight(t, fmt.Sprint(bits, ", used"), api.Space{Bits: bits, Used: []api.Block{{Size: 1 << bits}}})
		askFault(t, fmt.Sprint(bits, ", no blocks"), api.Space{Bits: bits}, fault(api.ErrSize, 0))
	}
	for _, bits := range far() {
		if bits >= 0 && bits <= mostBits {
			continue
		}
		what := fmt.Sprint(bits)
		askFault(t, what+", no blocks", api.Space{Bits: bits}, fault(api.ErrMany, 0))
		for _, size := range []int{1, 2, mostUnits, 2 * mostUnits, math.MaxInt} {
			askFault(t, what+", free", api.Space{Bits: bits, Free: []api.Block{{Size: size}}}, fault(api.ErrMany, 0))
			askFault(t, what+", used", api.Space{Bits: bits, Used: []api.Block{{Size: size}}}, fault(api.ErrMany, 0))
		}
		askFault(t, what+", ahead of all else", space(bits, "-1+3", "1+0 0+0"), fault(api.ErrMany, 0))
	}
}

// P17.1: at most MaxList blocks, in one list and in both together.
func TestCheckMany(t *testing.T) {
	used := func(blocks int) api.Space {
		s := manyBlocks(t, blocks)
		s.Used, s.Free = slices.Concat(s.Used, s.Free), nil
		slices.SortFunc(s.Used, func(one, other api.Block) int { return one.Start - other.Start })
		return s
	}
	asFree := func(s api.Space) api.Space {
		return api.Space{Bits: s.Bits, Free: s.Used}
	}
	for _, blocks := range []int{api.MaxList - 1, api.MaxList} {
		what := fmt.Sprint(blocks)
		askRight(t, what, manyBlocks(t, blocks))
		askRight(t, what+" used", used(blocks))
		askFault(t, what+" free", asFree(used(blocks)), fault(api.ErrState, 0))
	}
	for _, blocks := range []int{api.MaxList + 1, api.MaxList + 2} {
		what := fmt.Sprint(blocks)
		askFault(t, what, manyBlocks(t, blocks), fault(api.ErrMany, 0))
		askFault(t, what+" used", used(blocks), fault(api.ErrMany, 0))
		askFault(t, what+" free", asFree(used(blocks)), fault(api.ErrMany, 0))
	}
	wrong := slices.Repeat([]api.Block{{Start: -1, Size: 3}}, api.MaxList)
	for _, c := range []struct {
		used, free int
		want       api.Fault
	}{
		{0, 1, fault(api.ErrRange, 1)},
		{1, 0, fault(api.ErrRange, 0)},
		{api.MaxList, 0, fault(api.ErrRange, 0)},
		{0, api.MaxList, fault(api.ErrRange, 1)},
		{api.MaxList / 2, api.MaxList / 2, fault(api.ErrRange, 0)},
		{api.MaxList - 1, 1, fault(api.ErrRange, 0)},
		{api.MaxList, 1, fault(api.ErrMany, 0)},
		{1, api.MaxList, fault(api.ErrMany, 0)},
		{api.MaxList/2 + 1, api.MaxList / 2, fault(api.ErrMany, 0)},
		{api.MaxList / 2, api.MaxList/2 + 1, fault(api.ErrMany, 0)},
		{api.MaxList, api.MaxList, fault(api.ErrMany, 0)},
	} {
		askFault(t, fmt.Sprint("wrong blocks: ", c.used, " and ", c.free), api.Space{Bits: 13, Used: wrong[:c.used], Free: wrong[:c.free]}, c.want)
	}
	same(t, "very many", buddy.Check(api.Space{Bits: 13, Free: make([]api.Block, 1000000)}), fault(api.ErrMany, 0))
}

// askBlock asks for what is wrong with a block, in either list, first and behind a right one.
func askBlock(t *testing.T, bits int, one api.Block) {
	t.Helper()
	what := fmt.Sprint(one, " of ", bits)
	list, right := []api.Block{one}, []api.Block{{Size: 1}}
	askFault(t, what+", used", api.Space{Bits: bits, Used: list}, fault(api.ErrRange, 0))
	askFault(t, what+", free", api.Space{Bits: bits, Free: list}, fault(api.ErrRange, 1))
	askFault(t, what+", in both", api.Space{Bits: bits, Used: list, Free: list}, fault(api.ErrRange, 0))
	askFault(t, what+", used behind", api.Space{Bits: bits, Used: append(right, one)}, fault(api.ErrRange, 0))
	askFault(t, what+", free behind", api.Space{Bits: bits, Used: right, Free: append(right, one)}, fault(api.ErrRange, 1))
	askFault(t, what+", used ahead", api.Space{Bits: bits, Used: append(list, right...)}, fault(api.ErrRange, 0))
}

// P17.1: Size is a power of two.
func TestCheckSize(t *testing.T) {
	for _, bits := range []int{0, 1, 2, 3, 4, 16, mostBits} {
		for _, size := range far() {
			if isPower(size) && size <= 1<<bits {
				continue
			}
			askBlock(t, bits, api.Block{Size: size})
			if size > 0 { // a multiple of it that would be in the space
				askBlock(t, bits, api.Block{Start: -size, Size: size})
			}
		}
		for _, size := range []int{3, 5, 6, 7, 12, 24, 96, 1<<bits - 1, 1<<bits + 1} {
			if !isPower(size) {
				askBlock(t, bits, api.Block{Size: size})
				askBlock(t, bits, api.Block{Start: size, Size: size})
			}
		}
	}
}

// P17.1: a Size of all units, and of twice as many.
func TestCheckWholeSize(t *testing.T) {
	for bits := range mostBits + 1 {
		whole := 1 << bits
		askRight(t, "all units", api.Space{Bits: bits, Used: []api.Block{{Size: whole}}})
		askBlock(t, bits, api.Block{Size: 2 * whole})
		askBlock(t, bits, api.Block{Size: 4 * whole})
		askBlock(t, bits, api.Block{Start: whole, Size: whole})
		askBlock(t, bits, api.Block{Start: -whole, Size: whole})
		askBlock(t, bits, api.Block{Start: -whole, Size: 2 * whole})
	}
}

// P17.1: Start is 0, or a multiple of Size, and the block lies within the space.
func TestCheckStart(t *testing.T) {
	for _, bits := range []int{0, 1, 2, 3, 5, 12, mostBits} {
		for size := 1; size <= 1<<bits; size *= 2 {
			for _, start := range append(far(), 1<<bits-size, 1<<bits, 1<<bits+size, 1<<bits-size/2, size/2, size+size/2, -size, size+1) {
				one := api.Block{Start: start, Size: size}
				if isOfSpace(one, bits) {
					continue
				}
				if size < 4 || size > 1<<bits/4 { // those between tell no more
					askBlock(t, bits, one)
				}
			}
			s := api.Space{Bits: bits, Used: []api.Block{{Start: 1<<bits - size, Size: size}}}
			if size < 1<<bits {
				askFault(t, "the last block alone", s, fault(api.ErrSize, 0))
			}
			for half := 1 << bits / 2; half >= size; half /= 2 { // all that is ahead of it
				s.Free = append(s.Free, api.Block{Start: 1<<bits - 2*half, Size: half})
			}
			askRight(t, fmt.Sprint("the last block, of ", size, " of ", bits), s)
		}
	}
}

// P17.1: each block starts behind the start of the one ahead of it in its list.
func TestCheckForm(t *testing.T) {
	for _, c := range []struct {
		what string
		s    api.Space
		want api.Fault
	}{
		{"used, falling", space(1, "1+1 0+1", ""), fault(api.ErrForm, 0)},
		{"free, falling", space(1, "", "1+1 0+1"), fault(api.ErrForm, 1)},
		{"used, alike", space(1, "0+1 0+1", "1+1"), fault(api.ErrForm, 0)},
		{"free, alike", space(1, "1+1", "0+1 0+1"), fault(api.ErrForm, 1)},
		{"used, start alike", space(2, "0+1 0+2", "2+2"), fault(api.ErrForm, 0)},
		{"used, start alike, the larger one ahead", space(2, "0+2 0+1", "2+2"), fault(api.ErrForm, 0)},
		{"free, start alike", space(2, "2+2", "0+1 0+2"), fault(api.ErrForm, 1)},
		{"free, start alike, the larger one ahead", space(2, "2+2", "0+2 0+1"), fault(api.ErrForm, 1)},
		{"used, the last one alone", space(2, "0+1 1+1 3+1 2+1", ""), fault(api.ErrForm, 0)},
		{"free, the last one alone", space(3, "1+1 3+1 5+1 7+1", "0+1 2+1 6+1 4+1"), fault(api.ErrForm, 1)},
		{"used, behind the first but not behind the second", space(2, "0+1 2+1 1+1 3+1", ""), fault(api.ErrForm, 0)},
		{"both", space(2, "3+1 2+1", "1+1 0+1"), fault(api.ErrForm, 0)},
		{"free ones ahead of used ones", space(2, "2+1 3+1", "0+2"), none},
		{"used ones ahead of free ones", space(2, "0+1 1+1", "2+2"), none},
		{"a start inside of the one ahead is of no wrong form", space(2, "0+2 1+1 2+2", ""), fault(api.ErrSize, 0)},
		{"nor is the same one in the other list", space(1, "0+2", "0+2"), fault(api.ErrSize, 0)},
	} {
		if c.want == none {
			askRight(t, c.what, c.s)
		} else {
			askFault(t, c.what, c.s, c.want)
		}
	}
}

// P17.1: Used ahead of Free, and block by block: ErrRange ahead of ErrForm of the same one, and behind that of an earlier one.
func TestCheckOrder(t *testing.T) {
	for _, c := range []struct {
		what       string
		used, free string
		want       api.Fault
	}{
		{"a range ahead of a form of the same one", "2+1 1+2", "", fault(api.ErrRange, 0)},
		{"of the same one, free", "", "2+1 1+2", fault(api.ErrRange, 1)},
		{"a form ahead of a range behind it", "1+1 0+1 2+3", "", fault(api.ErrForm, 0)},
		{"behind it, free", "", "1+1 0+1 2+3", fault(api.ErrForm, 1)},
		{"a range ahead of a form behind it", "1+3 1+1 0+1", "", fault(api.ErrRange, 0)},
		{"a form behind a range, free", "", "0+1 2+0 1+1", fault(api.ErrRange, 1)},
		{"a used range ahead of a free one", "0+5", "0+3", fault(api.ErrRange, 0)},
		{"a used range ahead of a free form", "0+5", "1+1 0+1", fault(api.ErrRange, 0)},
		{"a used form ahead of a free range", "1+1 0+1", "0+3", fault(api.ErrForm, 0)},
		{"a used form ahead of a free form", "1+1 0+1", "3+1 2+1", fault(api.ErrForm, 0)},
		{"a free range ahead of a size", "0+1", "2+3", fault(api.ErrRange, 1)},
		{"a free form ahead of a size", "0+1", "3+1 2+1", fault(api.ErrForm, 1)},
		{"a size ahead of a state", "0+1", "2+1 3+1", fault(api.ErrSize, 0)},
		{"a unit twice ahead of a state", "0+2 2+1", "2+1 3+1", fault(api.ErrSize, 0)},
		{"a range ahead of a state", "0+2", "2+1 3+1 4+1", fault(api.ErrRange, 1)},
		{"a form ahead of a state", "0+2", "2+1 3+1 3+1", fault(api.ErrForm, 1)},
		{"a state", "0+2", "2+1 3+1", fault(api.ErrState, 0)},
	} {
		askFault(t, c.what, space(2, c.used, c.free), c.want)
	}
}

// P17.1: each unit is in one block.
func TestCheckParted(t *testing.T) {
	for _, c := range []struct {
		what       string
		bits       int
		used, free string
	}{
		{"no block at all", 0, "", ""},
		{"no block at all of several units", 3, "", ""},
		{"no first unit", 1, "1+1", ""},
		{"no first unit, free", 1, "", "1+1"},
		{"no last unit", 1, "0+1", ""},
		{"no last unit, free", 1, "", "0+1"},
		{"no unit between", 2, "0+1 2+2", ""},
		{"no unit between, free", 2, "", "0+1 2+2"},
		{"no unit between, in both", 2, "0+1", "2+2"},
		{"the first half alone", 3, "0+4", ""},
		{"the second half alone", 3, "", "4+4"},
		{"a unit twice, used", 2, "0+4 1+1", ""},
		{"a unit twice, free", 2, "", "0+2 1+1 2+2"},
		{"a unit twice, in both", 1, "0+2", "1+1"},
		{"a unit twice, the other way round", 1, "1+1", "0+2"},
		{"a block in both", 0, "0+1", "0+1"},
		{"two blocks in both", 1, "0+1 1+1", "0+1"},
		{"the last block in both", 2, "0+1 1+1 2+2", "2+2"},
		{"start alike in both", 2, "0+2", "0+1 2+2"},
		{"start alike in both, the free one larger", 2, "0+1 2+2", "0+2"},
		{"one unit twice and another in none", 2, "0+2 1+1", "3+1"},
		{"one unit in none and another twice", 2, "0+1", "2+2 3+1"},
		{"all units twice", 2, "0+2 2+2", "0+4"},
		{"a block within a block at the end", 3, "0+4 4+4 6+2", ""},
		{"a block within a free one at the end", 3, "0+4 7+1", "4+4"},
		{"units twice ahead of a block", 3, "0+4 2+2 4+4", ""},
	} {
		askFault(t, c.what, space(c.bits, c.used, c.free), fault(api.ErrSize, 0))
	}
	for bits := 1; bits <= mostBits; bits++ {
		whole := 1 << bits
		for _, left := range []api.Space{
			{Used: units(0, 1)}, {Free: units(whole-1, 1)}, {Used: []api.Block{{Size: whole / 2}}}, {Free: []api.Block{{Start: whole / 2, Size: whole / 2}}},
			{Used: []api.Block{{Size: whole}}, Free: units(whole-1, 1)}, {Used: units(0, 1), Free: []api.Block{{Size: whole}}},
		} {
			left.Bits = bits
			askFault(t, fmt.Sprint("of ", bits), left, fault(api.ErrSize, 0))
		}
	}
}

// P17.1: leaving one block out, or having one twice, is told wherever it is.
func TestCheckPartedLarge(t *testing.T) {
	s := manyBlocks(t, api.MaxList)
	for _, at := range []int{0, 1, 7, 100, 4000, len(s.Used) - 2, len(s.Used) - 1} {
		less := copied(s)
		less.Used = slices.Delete(less.Used, at, at+1)
		same(t, fmt.Sprint("without ", s.Used[at]), buddy.Check(less), fault(api.ErrSize, 0))
		less.Free = []api.Block{s.Used[at]}
		same(t, fmt.Sprint("with but ", s.Used[at]), buddy.Check(less), fault(api.ErrSize, 0))
	}
	less := manyBlocks(t, api.MaxList-1)
	for _, at := range []int{0, 1, 7, 100, 4000, len(less.Used) - 2, len(less.Used) - 1} {
		twice := copied(less)
		for i, one := range twice.Free {
			if one.Start > less.Used[at].Start {
				twice.Free = slices.Insert(twice.Free, i, less.Used[at])
				break
			}
		}
		if len(twice.Free) == len(less.Free) {
			twice.Free = append(twice.Free, less.Used[at])
		}
		same(t, fmt.Sprint("twice ", less.Used[at]), buddy.Check(twice), fault(api.ErrSize, 0))
	}
}

// P17.1: no two mates are free.
func TestCheckState(t *testing.T) {
	for _, c := range []struct {
		what       string
		bits       int
		used, free string
	}{
		{"all of it", 1, "", "0+1 1+1"},
		{"two halves", 3, "", "0+4 4+4"},
		{"the first two", 2, "2+2", "0+1 1+1"},
		{"the last two", 2, "0+2", "2+1 3+1"},
		{"the first two, with others", 3, "2+1", "0+1 1+1 3+1 4+4"},
		{"the last two, with others", 3, "4+1", "0+4 5+1 6+1 7+1"},
		{"all units", 2, "", "0+1 1+1 2+1 3+1"},
		{"those between", 3, "0+1 7+1", "1+1 2+2 4+1 5+1 6+1"},
		{"large ones behind small ones", 4, "0+1 2+1 4+4", "1+1 3+1 8+4 12+4"},
	} {
		askFault(t, c.what, space(c.bits, c.used, c.free), fault(api.ErrState, 0))
	}
	for _, c := range []struct {
		what       string
		bits       int
		used, free string
	}{
		{"used mates", 1, "0+1 1+1", ""},
		{"a used mate behind", 2, "2+2", "0+2"},
		{"a used mate ahead", 2, "0+2", "2+2"},
		{"of another size", 2, "3+1", "0+2 2+1"},
		{"of another size behind", 2, "0+1", "1+1 2+2"},
		{"side by side, but of two larger ones", 2, "0+1 3+1", "1+1 2+1"},
		{"side by side, but of two larger ones, in the middle of all", 4, "0+4 12+4", "4+4 8+4"},
	} {
		askRight(t, c.what, space(c.bits, c.used, c.free))
	}
	for bits := 1; bits <= mostBits; bits++ {
		half := 1 << bits / 2
		askFault(t, "two halves", api.Space{Bits: bits, Free: []api.Block{{Size: half}, {Start: half, Size: half}}}, fault(api.ErrState, 0))
		askFault(t, "all sizes", api.Space{Bits: bits, Free: append(units(0, 1), chain(1, 1, half)...)}, fault(api.ErrState, 0))
	}
}

// P17.1: New.
func TestNew(t *testing.T) {
	for bits := range mostBits + 1 {
		s, f := buddy.New(bits)
		same(t, fmt.Sprint("new of ", bits), told(s, f), told(api.Space{Bits: bits, Free: []api.Block{{Size: 1 << bits}}}, none))
		askRight(t, fmt.Sprint("new of ", bits), s)
	}
	for _, bits := range far() {
		if bits < 0 || bits > mostBits {
			s, f := buddy.New(bits)
			same(t, fmt.Sprint("new of ", bits), told(s, f), told(api.Space{}, fault(api.ErrRange, -1)))
		}
	}
}
