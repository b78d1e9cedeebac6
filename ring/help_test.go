package ring_test

import (
	"fmt"
	"math"
	"math/rand"
	"slices"
	"testing"

	"taskmill/api"
)

func fault(code, at int) api.Fault { return api.Fault{Code: code, At: at} }

var none = api.Fault{}

func ringOf(next int, list ...int) api.Ring { return api.Ring{Next: next, List: list} }

// upTo is the list of first, first + 1, and so on, n tasks in all.
func upTo(first, n int) []int {
	list := make([]int, n)
	for i := range list {
		list[i] = first + i
	}
	return list
}

// join is a new list of the lists, one behind the other.
func join(lists ...[]int) []int { return slices.Concat(lists...) }

// same holds two things against each other as they are told: nil and empty lists are the same.
func same(t *testing.T, what string, got, want any) {
	t.Helper()
	if fmt.Sprint(got) != fmt.Sprint(want) {
		t.Errorf("%s: got %v, want %v", what, got, want)
	}
}

// bare asks that nothing stands beside a fault.
func bare(t *testing.T, what string, rings []api.Ring, list []int, number int) {
	t.Helper()
	for _, q := range rings {
		if q.Next != 0 || len(q.List) != 0 {
			t.Errorf("%s: beside the fault stands the ring %v", what, q)
		}
	}
	if len(list) != 0 || number != 0 {
		t.Errorf("%s: beside the fault stand %v and %d", what, list, number)
	}
}

// wrongRing is a ring of which Check says something, and what it says.
type wrongRing struct {
	what string
	q    api.Ring
	want api.Fault
}

func wrongRings() []wrongRing {
	full := upTo(1, api.MaxRing)
	return []wrongRing{
		{"a task too many", ringOf(0, upTo(1, api.MaxRing+1)...), fault(api.ErrMany, 0)},
		{"far too many", ringOf(0, upTo(1, 3*api.MaxRing)...), fault(api.ErrMany, 0)},
		{"Next below 0", ringOf(-1), fault(api.ErrRange, 0)},
		{"Next far below", ringOf(math.MinInt, 1), fault(api.ErrRange, 0)},
		{"first below 1", ringOf(0, 0), fault(api.ErrRange, 1)},
		{"first far below", ringOf(1, math.MinInt), fault(api.ErrRange, 1)},
		{"third below 1", ringOf(9, 1, 2, -1, 3), fault(api.ErrRange, 3)},
		{"last of MaxRing below 1", ringOf(0, join(full[1:], []int{0})...), fault(api.ErrRange, api.MaxRing)},
		{"there ahead", ringOf(0, 4, 5, 4), fault(api.ErrTwice, 3)},
		{"there just ahead", ringOf(0, 4, 4), fault(api.ErrTwice, 2)},
		{"first is Next", ringOf(4, 4), fault(api.ErrTwice, 1)},
		{"third is Next", ringOf(4, 1, 2, 4), fault(api.ErrTwice, 3)},
		{"last of MaxRing is the first", ringOf(0, join(full[:api.MaxRing-1], full[:1])...), fault(api.ErrTwice, api.MaxRing)},
		{"last of MaxRing is Next", ringOf(api.MaxRing, full...), fault(api.ErrTwice, api.MaxRing)},
		{"farthest task twice", ringOf(math.MaxInt, 1, math.MaxInt), fault(api.ErrTwice, 2)},

		{"many ahead of Next", ringOf(-1, upTo(1, api.MaxRing+1)...), fault(api.ErrMany, 0)},
		{"many ahead of tasks", ringOf(0, make([]int, api.MaxRing+1)...), fault(api.ErrMany, 0)},
		{"Next ahead of tasks below 1", ringOf(-1, 0), fault(api.ErrRange, 0)},
		{"Next ahead of tasks twice", ringOf(-1, 5, 5), fault(api.ErrRange, 0)},
		{"below 1 ahead of twice at one task", ringOf(0, 0, 0), fault(api.ErrRange, 1)},
		{"an earlier task below 1 ahead of a later one twice", ringOf(0, 5, -1, 5), fault(api.ErrRange, 2)},
		{"an earlier task twice ahead of a later one below 1", ringOf(0, 5, 5, -1), fault(api.ErrTwice, 2)},
		{"Next again ahead of a later one below 1", ringOf(7, 5, 7, 0), fault(api.ErrTwice, 2)},
	}
}

// anyRing is a right ring of n tasks in all, from first on, in any order; Next is one of them or none.
func anyRing(r *rand.Rand, first, n int) api.Ring {
	list := upTo(first, n)
	r.Shuffle(n, func(i, j int) { list[i], list[j] = list[j], list[i] })
	if n > 0 && (n > api.MaxRing || r.Intn(2) == 0) {
		return ringOf(list[0], list[1:]...)
	}
	return ringOf(0, list...)
}

// wildNumber is mostly a small one, at times one of the farthest.
func wildNumber(r *rand.Rand) int {
	far := []int{math.MinInt, math.MaxInt, -1, 0, 1 << 32}
	if r.Intn(16) == 0 {
		return far[r.Intn(len(far))]
	}
	return 1 + r.Intn(20)
}

func wildList(r *rand.Rand, n int) []int {
	list := make([]int, n)
	for i := range list {
		list[i] = wildNumber(r)
	}
	return list
}
