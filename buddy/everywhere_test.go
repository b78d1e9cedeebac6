package buddy_test

import (
	"fmt"
	"math/rand"
	"slices"
	"testing"

	"taskmill/api"
	"taskmill/buddy"
)

// askCheck holds what Check answers against what the words say.
func askCheck(t *testing.T, s api.Space) int {
	t.Helper()
	_, want := checkByTheWords(s)
	if got := buddy.Check(s); got != want {
		same(t, fmt.Sprintf("check %.500s", fmt.Sprint(s)), got, want)
	}
	return want.Code
}

// askTaken holds what Take answers against what the words say.
func askTaken(t *testing.T, s api.Space, n int) int {
	t.Helper()
	then, start, f := takeByTheWords(s, n)
	if f == none {
		askTake(t, "by the words", s, n, then, start)
	} else {
		askTakeFault(t, "by the words", s, n, f)
	}
	return f.Code
}

// askGiven holds what Give answers against what the words say.
func askGiven(t *testing.T, s api.Space, start int) int {
	t.Helper()
	then, f := giveByTheWords(s, start)
	if f == none {
		askGive(t, "by the words", s, start, then)
	} else {
		askGiveFault(t, "by the words", s, start, f)
	}
	return f.Code
}

// askCodes asks whether each fault came so often.
func askCodes(t *testing.T, what string, codes map[int]int, often int, want ...int) {
	t.Helper()
	for _, code := range want {
		if codes[code] < often {
			t.Errorf("%s: not all faults were asked: %v", what, codes)
		}
	}
}

// P17.1, at all lists of few blocks, the right ones and those that are not; Take and Give tell the same.
func TestSmallLists(t *testing.T) {
	codes := map[int]int{}
	for bits := range 3 {
		var each []api.Block
		for start := -1; start <= 1<<bits; start++ {
			for size := 0; size <= 1<<bits+1; size++ {
				each = append(each, api.Block{Start: start, Size: size})
			}
		}
		lists := allLists(2, each)
		if bits == 1 {
			lists = allLists(3, blocks("0+1 1+1 0+2 1+2 0+3 2+1"))
		}
		for _, used := range lists {
			for _, free := range lists {
				s := api.Space{Bits: bits, Used: used, Free: free}
				code := askCheck(t, s)
				codes[code]++
				if codes[code]%17 == 0 {
					askTaken(t, s, 1)
					askGiven(t, s, 0)
				}
			}
		}
	}
	askCodes(t, "check", codes, 5, api.OK, api.ErrState)
	askCodes(t, "check", codes, 100, api.ErrRange, api.ErrForm, api.ErrSize)
}

// P17.1, at all lists of right blocks that rise.
func TestRisingLists(t *testing.T) {
	codes := map[int]int{}
	each := blocks("0+1 0+2 0+4 1+1 2+1 2+2 3+1")
	var lists [][]api.Block
	for set := range 1 << len(each) {
		var list []api.Block
		for at, one := range each {
			if set>>at&1 == 1 {
				list = append(list, one)
			}
		}
		lists = append(lists, list)
	}
	for _, used := range lists {
		for _, free := range lists {
			codes[askCheck(t, api.Space{Bits: 2, Used: used, Free: free})]++
		}
	}
	same(t, "how many are right", codes[api.OK], len(allSpaces(2)))
	askCodes(t, "check", codes, 5, api.ErrForm, api.ErrSize, api.ErrState)
}

// P17.2 and P17.3, at all spaces of up to 8 units, with all n and all starts.
func TestSmallSpaces(t *testing.T) {
	takes, gives := map[int]int{}, map[int]int{}
	for bits := range 4 {
		for _, s := range allSpaces(bits) {
			same(t, "check", buddy.Check(s), none)
			for n := -1; n <= 1<<bits+2; n++ {
				takes[askTaken(t, s, n)]++
			}
			for start := -2; start <= 1<<bits+1; start++ {
				gives[askGiven(t, s, start)]++
			}
		}
	}
	askCodes(t, "take", takes, 500, api.OK, api.ErrRange, api.ErrNone)
	askCodes(t, "give", gives, 500, api.OK, api.ErrNone)
}

// P17.2 and P17.3, at any spaces.
func TestAnySpaces(t *testing.T) {
	r := rand.New(rand.NewSource(391))
	takes, gives := map[int]int{}, map[int]int{}
	for range 30000 {
		s := smallSpace(r)
		takes[askTaken(t, s, anyUnits(r, s))]++
		gives[askGiven(t, s, anyStart(r, s))]++
	}
	askCodes(t, "take", takes, 500, api.OK, api.ErrRange, api.ErrNone)
	askCodes(t, "give", gives, 500, api.OK, api.ErrNone)
}

// P17.1 to P17.3, at spaces of as many blocks as may be, and a few more.
func TestLargeSpaces(t *testing.T) {
	r := rand.New(rand.NewSource(392))
	checks, takes, gives := map[int]int{}, map[int]int{}, map[int]int{}
	for range 60 {
		s := anySpace(r, 13+r.Intn(mostBits-12), api.MaxList+3-r.Intn(8))
		if r.Intn(2) == 0 {
			s = largeFree(r, s)
		}
		checks[askCheck(t, s)]++
		for range 4 {
			takes[askTaken(t, s, anyUnits(r, s))]++
			gives[askGiven(t, s, anyStart(r, s))]++
		}
	}
	askCodes(t, "check", checks, 5, api.OK, api.ErrMany)
	askCodes(t, "take", takes, 5, api.OK, api.ErrMany, api.ErrNone, api.ErrMuch)
	askCodes(t, "give", gives, 5, api.OK, api.ErrMany, api.ErrNone)
}

// largeFree is a space of the same blocks, of which one alone is free, a large one.
func largeFree(r *rand.Rand, s api.Space) api.Space {
	all := slices.Concat(s.Used, s.Free)
	slices.SortFunc(all, func(one, other api.Block) int { return other.Size - one.Size })
	free := all[r.Intn(min(len(all), 10))]
	s.Used = slices.DeleteFunc(all, func(one api.Block) bool { return one == free })
	slices.SortFunc(s.Used, func(one, other api.Block) int { return one.Start - other.Start })
	s.Free = []api.Block{free}
	return s
}

// P1: no call panics whatever it is given, and each answers what the document's words say, and the same again.
func TestWildInputs(t *testing.T) {
	r := rand.New(rand.NewSource(393))
	checks, takes, gives := map[int]int{}, map[int]int{}, map[int]int{}
	const times = 30000
	for range times {
		s := smallSpace(r)
		n, start := anyUnits(r, s), anyStart(r, s)
		if r.Intn(2) == 0 {
			s = spoiled(r, s)
		}
		for _, p := range []*int{&n, &start} {
			if r.Intn(5) == 0 {
				*p = far()[r.Intn(len(far()))]
			}
		}
		checks[askCheck(t, s)]++
		takes[askTaken(t, s, n)]++
		gives[askGiven(t, s, start)]++
		askTaken(t, s, n)
		askGiven(t, s, start)
	}
	askCodes(t, "check", checks, times/200, api.OK, api.ErrMany, api.ErrRange, api.ErrForm, api.ErrSize, api.ErrState)
	askCodes(t, "take", takes, times/200, api.OK, api.ErrMany, api.ErrRange, api.ErrForm, api.ErrSize, api.ErrState, api.ErrNone)
	askCodes(t, "give", gives, times/200, api.OK, api.ErrMany, api.ErrRange, api.ErrForm, api.ErrSize, api.ErrState, api.ErrNone)
}

// spoiled is a space in which something, or nothing, is wrong.
func spoiled(r *rand.Rand, s api.Space) api.Space {
	lists := []*[]api.Block{&s.Used, &s.Free}
	if r.Intn(2) == 0 {
		slices.Reverse(lists)
	}
	list, other := lists[0], lists[1]
	if r.Intn(6) == 0 {
		s.Bits = far()[r.Intn(len(far()))]
	}
	if len(*list) == 0 {
		return s
	}
	at := r.Intn(len(*list))
	one := &(*list)[at]
	switch r.Intn(7) {
	case 0:
		one.Start = far()[r.Intn(len(far()))]
	case 1:
		one.Size = far()[r.Intn(len(far()))]
	case 2: // it is parted, and both halves stay in the list
		if one.Size > 1 {
			*list = slices.Replace(*list, at, at+1, halvesOf(*one)...)
		}
	case 3:
		*list = slices.Delete(*list, at, at+1)
	case 4: // it goes to the other list
		*other = append(*other, *one)
		*list = slices.Delete(*list, at, at+1)
		slices.SortFunc(*other, func(one, other api.Block) int { return one.Start - other.Start })
	case 5:
		to := r.Intn(len(*list))
		(*list)[at], (*list)[to] = (*list)[to], (*list)[at]
	case 6:
		*list = append(*list, *one)
	}
	return s
}

// P1: the farthest numbers, everywhere at once.
func TestFarthest(t *testing.T) {
	for _, n := range far() {
		for _, m := range far() {
			one := []api.Block{{Start: n, Size: m}}
			for _, bits := range []int{n, m, 0, 1, mostBits} {
				for _, s := range []api.Space{{Bits: bits, Used: one}, {Bits: bits, Free: one}, {Bits: bits, Used: one, Free: one}} {
					askCheck(t, s)
					askTaken(t, s, n)
					askGiven(t, s, m)
				}
			}
		}
		for bits := range mostBits + 1 {
			askTaken(t, newOf(t, bits), n)
			askGiven(t, newOf(t, bits), n)
		}
	}
}
