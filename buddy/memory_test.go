package buddy_test

import (
	"fmt"
	"math/rand"
	"slices"
	"testing"

	"taskmill/api"
	"taskmill/buddy"
)

// roomy is a list with more behind its length, which nobody may read or write.
func roomy(list []api.Block, behind api.Block) []api.Block {
	return append(slices.Clone(list), behind, behind, behind)[:len(list)]
}

// whole is a list with what lies behind its length.
func whole(list []api.Block) []api.Block { return list[:cap(list)] }

// wholeSpace tells of a space with what lies behind its lists.
func wholeSpace(s api.Space) string {
	return fmt.Sprint(s.Bits, whole(s.Used), whole(s.Free), len(s.Used), len(s.Free))
}

// spoil writes over all the memory of a list, also behind its length.
func spoil(list []api.Block) {
	for i := range whole(list) {
		whole(list)[i] = api.Block{Start: 77, Size: 77}
	}
}

// answers are what all calls answer, told.
func answers(s api.Space, n, start int) string {
	taken, at, f := buddy.Take(s, n)
	given, g := buddy.Give(s, start)
	return told(buddy.Check(s), taken, at, f, given, g)
}

// Lists that are handed in are only read, and what lies behind their length is neither read nor written.
func TestListsAreOnlyRead(t *testing.T) {
	r := rand.New(rand.NewSource(381))
	for range 3000 {
		s := smallSpace(r)
		n, start := anyUnits(r, s), anyStart(r, s)
		if r.Intn(10) == 0 && len(s.Used) > 0 {
			s.Used[r.Intn(len(s.Used))].Start++
		}
		before := fmt.Sprint(s)
		want := answers(copied(s), n, start)
		same(t, "the answers", answers(s, n, start), want)
		same(t, "what was handed in", fmt.Sprint(s), before)
		for _, behind := range []api.Block{{}, {Start: -1, Size: -1}, {Start: 1 << s.Bits, Size: 1}, {Start: 0, Size: 1 << s.Bits}} {
			short := api.Space{Bits: s.Bits, Used: roomy(s.Used, behind), Free: roomy(s.Free, behind)}
			before := wholeSpace(short)
			same(t, "the answers", answers(short, n, start), want)
			same(t, "what was handed in", wholeSpace(short), before)
		}
	}
}

// Both lists may stand in one memory, one behind the other.
func TestListsInOneMemory(t *testing.T) {
	r := rand.New(rand.NewSource(382))
	for range 3000 {
		s := smallSpace(r)
		n, start := anyUnits(r, s), anyStart(r, s)
		want := answers(s, n, start)
		both := slices.Concat(s.Used, s.Free)
		one := api.Space{Bits: s.Bits, Used: both[:len(s.Used)], Free: both[len(s.Used):]}
		same(t, "used ahead of free", answers(one, n, start), want)
		same(t, "what was handed in", one, s)
		both = slices.Concat(s.Free, s.Used)
		one = api.Space{Bits: s.Bits, Used: both[len(s.Free):], Free: both[:len(s.Free)]}
		same(t, "free ahead of used", answers(one, n, start), want)
		same(t, "what was handed in", one, s)
	}
}

// What lies behind a list's length is no block.
func TestBehindIsNothing(t *testing.T) {
	two := blocks("0+1 1+1")
	askFault(t, "a unit behind, used", api.Space{Bits: 1, Used: two[:1]}, fault(api.ErrSize, 0))
	askFault(t, "a unit behind, free", api.Space{Bits: 1, Free: two[:1]}, fault(api.ErrSize, 0))
	askRight(t, "a unit twice behind", api.Space{Bits: 0, Used: two[:1], Free: two[:0]})
	askRight(t, "a wrong block behind", api.Space{Bits: 0, Free: blocks("0+1 9+9")[:1]})
	askRight(t, "a mate behind", api.Space{Bits: 1, Used: two[1:], Free: two[:1]})
	askGive(t, "a mate behind", space(1, "0+1 1+1", ""), 0, space(1, "1+1", "0+1"))
	askGive(t, "a mate behind", api.Space{Bits: 1, Used: two, Free: blocks("1+1")[:0]}, 0, space(1, "1+1", "0+1"))
	askGiveFault(t, "a used block behind", api.Space{Bits: 1, Used: two[:1], Free: two[1:]}, 1, fault(api.ErrNone, 0))
	askTakeFault(t, "a free block behind", api.Space{Bits: 1, Used: two, Free: two[:0]}, 1, fault(api.ErrNone, 0))
	s := manyBlocks(t, api.MaxList)
	s.Used = append(slices.Clone(s.Used), two...)[:len(s.Used)]
	askRight(t, "too many behind", s)
}

// nil and empty lists are the same.
func TestEmptyLists(t *testing.T) {
	for _, empty := range [][]api.Block{nil, {}, make([]api.Block, 0, 9)} {
		askFault(t, "both", api.Space{Used: empty, Free: empty}, fault(api.ErrSize, 0))
		for bits := range 4 {
			one := []api.Block{{Size: 1 << bits}}
			free, used := api.Space{Bits: bits, Used: empty, Free: one}, api.Space{Bits: bits, Used: one, Free: empty}
			askRight(t, "used", free)
			askRight(t, "free", used)
			askTake(t, "take", free, 1<<bits, used, 0)
			askGive(t, "give", used, 0, free)
			askTakeFault(t, "take", used, 1, fault(api.ErrNone, 0))
			askGiveFault(t, "give", free, 0, fault(api.ErrNone, 0))
		}
	}
}

// askMemory asks of an answer that its lists share nothing with one another nor with what was handed in; ask tells that.
func askMemory(t *testing.T, what string, got api.Space, ask func() string) {
	t.Helper()
	before, free := ask(), fmt.Sprint(got.Free)
	spoil(got.Used)
	same(t, what+": the other list", fmt.Sprint(got.Free), free)
	spoil(got.Free)
	same(t, what+": the rest", ask(), before)
	used := fmt.Sprint(got.Used)
	for i := range whole(got.Free) {
		whole(got.Free)[i] = api.Block{Start: 55, Size: 55}
	}
	same(t, what+": the other list", fmt.Sprint(got.Used), used)
}

// What is answered is new memory, and none is kept.
func TestAnswersAreNewMemory(t *testing.T) {
	r := rand.New(rand.NewSource(383))
	takes, gives := 0, 0
	for range 4000 {
		s := smallSpace(r)
		n, start := anyUnits(r, s), anyStart(r, s)
		taken, _, f := buddy.Take(s, n)
		given, g := buddy.Give(s, start)
		if f == none {
			takes++
		}
		if g == none {
			gives++
		}
		askMemory(t, "take", taken, func() string { return fmt.Sprint(s, given, answers(s, n, start)) })
		askMemory(t, "give", given, func() string { return fmt.Sprint(s, taken, answers(s, n, start)) })
	}
	if takes < 1000 || gives < 1000 {
		t.Errorf("only %d were taken, and %d given", takes, gives)
	}
	for bits := range mostBits + 1 {
		s := newOf(t, bits)
		askMemory(t, "new", s, func() string { return fmt.Sprint(buddy.New(bits)) })
	}
}

// What was answered stays as it is, when what was handed in is changed.
func TestNothingHandedInIsKept(t *testing.T) {
	r := rand.New(rand.NewSource(384))
	for range 3000 {
		s := smallSpace(r)
		taken, at, f := buddy.Take(s, anyUnits(r, s))
		given, g := buddy.Give(s, anyStart(r, s))
		want := told(taken, at, f, given, g)
		spoil(s.Used)
		spoil(s.Free)
		same(t, "the answer", told(taken, at, f, given, g), want)
	}
}

// What is answered hangs on the arguments alone, not on what was asked ahead.
func TestNothingIsKept(t *testing.T) {
	for range 3 {
		askTake(t, "take", space(3, "", "0+8"), 3, space(3, "0+4", "4+4"), 0)
		askTake(t, "again", space(3, "", "0+8"), 3, space(3, "0+4", "4+4"), 0)
		askGiveFault(t, "give", space(3, "", "0+8"), 0, fault(api.ErrNone, 0))
		askGive(t, "give", space(3, "0+4 4+4", ""), 0, space(3, "4+4", "0+4"))
		askFault(t, "wrong", space(3, "0+4", ""), fault(api.ErrSize, 0))
		askTakeFault(t, "none", space(3, "0+4", "4+4"), 5, fault(api.ErrNone, 0))
		askRight(t, "right", space(3, "0+4", "4+4"))
	}
}
