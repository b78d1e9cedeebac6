package buddy_test

import (
	"fmt"
	"math"
	"slices"
	"strconv"
	"strings"
	"testing"

	"taskmill/api"
	"taskmill/buddy"
)

// What the chapter names, and package api does not.
const (
	mostBits  = 30
	mostUnits = 1 << 30
)

func fault(code, at int) api.Fault { return api.Fault{Code: code, At: at} }

var none = api.Fault{}

// blocks are written as their starts and sizes: 0+4 4+1.
func blocks(text string) []api.Block {
	var list []api.Block
	for _, word := range strings.Fields(text) {
		start, size, _ := strings.Cut(word, "+")
		list = append(list, api.Block{Start: number(start), Size: number(size)})
	}
	return list
}

func number(word string) int {
	n, err := strconv.Atoi(word)
	if err != nil {
		panic(word)
	}
	return n
}

// space is written as its Bits, and then its used blocks and its free ones.
func space(bits int, used, free string) api.Space {
	return api.Space{Bits: bits, Used: blocks(used), Free: blocks(free)}
}

// units are so many used blocks of one unit each, from a start on.
func units(start, many int) []api.Block {
	var list []api.Block
	for n := range many {
		list = append(list, api.Block{Start: start + n, Size: 1})
	}
	return list
}

// chain are blocks that begin at a start, each twice as large as the one ahead, up to a Size.
func chain(start, size, upTo int) []api.Block {
	var list []api.Block
	for ; size <= upTo; size *= 2 {
		list = append(list, api.Block{Start: start, Size: size})
		start += size
	}
	return list
}

// manyBlocks is a space of 2^13 units with just so many blocks, some 5000. Those ahead are few: the free ones are of 4, 32 and 512 units. Most are used units.
func manyBlocks(t *testing.T, many int) api.Space {
	t.Helper()
	s := space(13, "0+4 8+8 16+16 64+64 128+128 256+256 1024+1024 2048+1024", "4+4 32+32 512+512")
	const from, to = 3072, 8192
	rest := many - len(s.Used) - len(s.Free)
	for start := from; start < to; rest-- {
		size := 1
		for 2*size-1 <= to-start-rest && start%(2*size) == 0 {
			size *= 2
		}
		s.Used = append(s.Used, api.Block{Start: start, Size: size})
		start += size
	}
	if len(s.Used)+len(s.Free) != many {
		t.Fatalf("%d blocks, where %d are wanted", len(s.Used)+len(s.Free), many)
	}
	return s
}

// far are numbers of units, starts, sizes and Bits far and near, of which many are limits, or just beyond.
func far() []int {
	list := []int{math.MinInt, math.MinInt + 1, -mostUnits - 1, -mostUnits, -4, -3, -2, -1, 0, 1, 2, 3, 4, 5, 6, 7, 8, 9, 29, 30, 31, 32, 62, 63, 64, 65, 5000, 5001}
	for _, n := range []int{mostUnits / 2, mostUnits, 2 * mostUnits, 1 << 32, 1 << 61, 1 << 62} {
		list = append(list, n-1, n, n+1)
	}
	return append(list, math.MaxInt-1, math.MaxInt)
}

// copied is a space of the same, in memory of its own.
func copied(s api.Space) api.Space {
	s.Used, s.Free = slices.Clone(s.Used), slices.Clone(s.Free)
	return s
}

// alike: are two spaces the same?
func alike(one, other api.Space) bool {
	return one.Bits == other.Bits && slices.Equal(one.Used, other.Used) && slices.Equal(one.Free, other.Free)
}

// askFault asks all calls: each tells first what Check says, and nothing beside it, whatever else it is given.
func askFault(t *testing.T, what string, s api.Space, want api.Fault) {
	t.Helper()
	same(t, what+": check", buddy.Check(s), want)
	for _, n := range far() {
		askTakeFault(t, what, s, n, want)
		askGiveFault(t, what, s, n, want)
	}
	for _, one := range slices.Concat(s.Used[:min(len(s.Used), 5)], s.Free[:min(len(s.Free), 5)]) {
		askTakeFault(t, what, s, one.Size, want)
		askGiveFault(t, what, s, one.Start, want)
	}
}

// askRight asks Check whether nothing is wrong; Take and Give tell nothing of Check's then.
func askRight(t *testing.T, what string, s api.Space) {
	t.Helper()
	same(t, what+": check", buddy.Check(s), none)
	askTakeFault(t, what, s, 0, fault(api.ErrRange, -1))
	askGiveFault(t, what, s, -1, fault(api.ErrNone, 0))
}

// askTake asks for the space then, and where the block starts.
func askTake(t *testing.T, what string, s api.Space, n int, then api.Space, start int) {
	t.Helper()
	got, at, f := buddy.Take(s, n)
	if alike(got, then) && at == start && f == none {
		return // most tests are many of these: telling them takes long
	}
	same(t, fmt.Sprintf("%s: take %d of %.300s", what, n, fmt.Sprint(s)), told(got, at, f), told(then, start, none))
}

// askTakeFault asks for what is wrong, beside which nothing is told.
func askTakeFault(t *testing.T, what string, s api.Space, n int, want api.Fault) {
	t.Helper()
	got, at, f := buddy.Take(s, n)
	if alike(got, api.Space{}) && at == 0 && f == want {
		return
	}
	same(t, fmt.Sprintf("%s: take %d of %.300s", what, n, fmt.Sprint(s)), told(got, at, f), told(api.Space{}, 0, want))
}

// askGive asks for the space then.
func askGive(t *testing.T, what string, s api.Space, start int, then api.Space) {
	t.Helper()
	got, f := buddy.Give(s, start)
	if alike(got, then) && f == none {
		return
	}
	same(t, fmt.Sprintf("%s: give %d of %.300s", what, start, fmt.Sprint(s)), told(got, f), told(then, none))
}

// askGiveFault asks for what is wrong, beside which nothing is told.
func askGiveFault(t *testing.T, what string, s api.Space, start int, want api.Fault) {
	t.Helper()
	got, f := buddy.Give(s, start)
	if alike(got, api.Space{}) && f == want {
		return
	}
	same(t, fmt.Sprintf("%s: give %d of %.300s", what, start, fmt.Sprint(s)), told(got, f), told(api.Space{}, want))
}

// newOf, takeOf and giveOf ask for what nothing is wrong with.
func newOf(t *testing.T, bits int) api.Space {
	t.Helper()
	s, f := buddy.New(bits)
	if f != none {
		t.Fatalf("new of %d: %v", bits, f)
	}
	return s
}

func takeOf(t *testing.T, s api.Space, n int) (api.Space, int) {
	t.Helper()
	then, start, f := buddy.Take(s, n)
	if f != none {
		t.Fatalf("take %d of %.300s: %v", n, fmt.Sprint(s), f)
	}
	return then, start
}

func giveOf(t *testing.T, s api.Space, start int) api.Space {
	t.Helper()
	then, f := buddy.Give(s, start)
	if f != none {
		t.Fatalf("give %d of %.300s: %v", start, fmt.Sprint(s), f)
	}
	return then
}

func told(parts ...any) string { return fmt.Sprintln(parts...) }

// same holds two things against each other as they are told: nil and empty lists are the same.
func same(t *testing.T, what string, got, want any) {
	t.Helper()
	if g, w := fmt.Sprint(got), fmt.Sprint(want); g != w {
		t.Errorf("%s:\n got %.1500s\nwant %.1500s", what, g, w)
	}
}
