package ring_test

import (
	"fmt"
	"math"
	"testing"

	"taskmill/api"
	"taskmill/ring"
)

// P2.4: how many of global go, by each of the four bounds.
func TestRefillBounds(t *testing.T) {
	const most, half, long = api.MaxRing, api.MaxRing / 2, api.MaxList
	rows := []struct {
		what                string
		list, global, procs int
		n                   int
	}{
		{"no global", 3, 0, 1, 0},
		{"no global, full", most, 0, api.MaxTask, 0},
		{"one processor takes all", 0, 4, 1, 4},
		{"one task, one processor", 0, 1, 1, 1},
		{"one task, many processors", 0, 1, api.MaxTask, 1},
		{"its part and one", 0, 4, 2, 3},
		{"its part, rounded down, and one", 0, 5, 2, 3},
		{"fewer than processors", 0, 3, 4, 1},
		{"as many as processors", 0, api.MaxTask, api.MaxTask, 2},
		{"just fewer than processors", 0, api.MaxTask - 1, api.MaxTask, 1},
		{"just below half", 0, half - 1, 1, half - 1},
		{"half", 0, half, 1, half},
		{"not more than half", 0, half + 1, 1, half},
		{"its part is just below half", 0, 2 * (half - 2), 2, half - 1},
		{"its part is half", 0, 2 * (half - 1), 2, half},
		{"its part is above half", 0, 2 * half, 2, half},
		{"MaxList tasks", 0, long, 1, half},
		{"MaxList tasks, MaxTask processors", 0, long, api.MaxTask, long/api.MaxTask + 1},
		{"room for half", most - half, long, 1, half},
		{"room for one less than half", most - half + 1, long, 1, half - 1},
		{"room for one", most - 1, 10, 1, 1},
		{"no room", most, 10, 1, 0},
		{"room for all", most - 4, 4, 1, 4},
		{"room for all but one", most - 3, 4, 1, 3},
		{"room for its part", most - 3, 4, 2, 3},
	}
	for _, r := range rows {
		for _, next := range []int{0, 1} {
			list, global := upTo(2, r.list), upTo(1000, r.global)
			then, rest, f := ring.Refill(ringOf(next, list...), global, r.procs)
			same(t, r.what+", ring", then, ringOf(next, join(list, global[:r.n])...))
			same(t, r.what+", rest", rest, global[r.n:])
			same(t, r.what+", fault", f, none)
		}
	}
}

// P2.4: the order of global stays, whatever its tasks are.
func TestRefillOrder(t *testing.T) {
	then, rest, f := ring.Refill(ringOf(5, 9, 1), []int{math.MaxInt, 2, 8, 3, 7}, 2)
	same(t, "ring", then, ringOf(5, 9, 1, math.MaxInt, 2, 8))
	same(t, "rest", rest, []int{3, 7})
	same(t, "fault", f, none)
}

// P2.4: each fault, its place, and the order where several apply.
func TestRefillFaults(t *testing.T) {
	q := ringOf(2, 1)
	long := upTo(1000, api.MaxList)
	rows := []struct {
		what   string
		global []int
		procs  int
		want   api.Fault
	}{
		{"one beyond MaxList", upTo(1000, api.MaxList+1), 1, fault(api.ErrMany, -1)},
		{"first below 1", []int{0, 3}, 1, fault(api.ErrForm, 0)},
		{"third below 1", []int{3, 4, -1, 0}, 1, fault(api.ErrForm, 2)},
		{"far below", []int{3, math.MinInt}, 1, fault(api.ErrForm, 1)},
		{"last of MaxList below 1", join(long[1:], []int{0}), 1, fault(api.ErrForm, api.MaxList-1)},
		{"Next", []int{3, 4, 2}, 1, fault(api.ErrSize, 2)},
		{"of List", []int{3, 1, 2}, 1, fault(api.ErrSize, 1)},
		{"first of all", []int{1}, 1, fault(api.ErrSize, 0)},
		{"ahead in global", []int{3, 4, 5, 4, 3}, 1, fault(api.ErrSize, 3)},
		{"one that would stay in global", []int{3, 4, 5, 6, 1}, api.MaxTask, fault(api.ErrSize, 4)},
		{"last of MaxList is the first", join(long[1:], long[1:2]), 1, fault(api.ErrSize, api.MaxList-1)},
		{"procs 0", []int{3}, 0, fault(api.ErrRange, -1)},
		{"procs 0, no global", nil, 0, fault(api.ErrRange, -1)},
		{"procs below 0", []int{3}, -1, fault(api.ErrRange, -1)},
		{"procs far below", []int{3}, math.MinInt, fault(api.ErrRange, -1)},
		{"procs one beyond MaxTask", []int{3}, api.MaxTask + 1, fault(api.ErrRange, -1)},
		{"procs far", nil, math.MaxInt, fault(api.ErrRange, -1)},

		{"many ahead of form", make([]int, api.MaxList+1), 1, fault(api.ErrMany, -1)},
		{"many ahead of tasks twice", join([]int{2}, long), 1, fault(api.ErrMany, -1)},
		{"many ahead of procs", upTo(1000, api.MaxList+1), 0, fault(api.ErrMany, -1)},
		{"a later form ahead of an earlier task of q", []int{1, 2, 0}, 1, fault(api.ErrForm, 2)},
		{"a later form ahead of an earlier task twice", []int{3, 3, -1}, 1, fault(api.ErrForm, 2)},
		{"form ahead of procs", []int{3, 0}, 0, fault(api.ErrForm, 1)},
		{"twice ahead of procs", []int{3, 3}, 0, fault(api.ErrSize, 1)},
		{"the first of those twice", []int{3, 1, 3, 2}, 1, fault(api.ErrSize, 1)},
	}
	for _, r := range rows {
		then, rest, f := ring.Refill(q, r.global, r.procs)
		same(t, r.what, f, r.want)
		bare(t, r.what, []api.Ring{then}, rest, 0)
	}
	for _, w := range wrongRings() {
		for _, global := range [][]int{nil, {0}, {3, 3}, make([]int, api.MaxList+1)} {
			for _, procs := range []int{0, 1} {
				then, rest, f := ring.Refill(w.q, global, procs)
				same(t, w.what, f, w.want)
				bare(t, w.what, []api.Ring{then}, rest, 0)
			}
		}
	}
}

// P2.4: without Next, no task of global is taken for it.
func TestRefillWithoutNext(t *testing.T) {
	then, rest, f := ring.Refill(api.Ring{}, []int{1, 2, 3, 4}, 2)
	same(t, "refill", fmt.Sprint(then, rest, f), "{0 [1 2 3]} [4] {0 0}")
	_, _, f = ring.Refill(api.Ring{}, []int{0}, 2)
	same(t, "0 is no task", f, fault(api.ErrForm, 0))
}

// P2.5: how many of List go: half, rounded up, or what there is room for.
func TestStealList(t *testing.T) {
	const most, half = api.MaxRing, api.MaxRing / 2
	rows := []struct {
		what        string
		from, to, n int
	}{
		{"none", 0, 0, 0},
		{"one", 1, 0, 1},
		{"two", 2, 0, 1},
		{"example: three", 3, 0, 2},
		{"four", 4, 3, 2},
		{"five", 5, 3, 3},
		{"MaxRing", most, 0, half},
		{"one below MaxRing", most - 1, 0, half},
		{"two below MaxRing", most - 2, 0, half - 1},
		{"just room", most, most - half, half},
		{"less room than half", most, most - half + 1, half - 1},
		{"room for one of three", 3, most - 1, 1},
		{"room for two of three", 3, most - 2, 2},
		{"room for one of one", 1, most - 1, 1},
		{"no room", 3, most, 0},
		{"no room for one", 1, most, 0},
		{"both full", most, most, 0},
	}
	for _, r := range rows {
		from, to := upTo(10, r.from), upTo(1000, r.to)
		for _, nexts := range [][]int{{0, 0}, {1, 0}, {0, 2}, {1, 2}} {
			for _, next := range []bool{false, true} {
				if r.from == 0 && next && nexts[0] != 0 {
					continue // Next goes then: TestStealNext
				}
				a, b, n, f := ring.Steal(ringOf(nexts[0], from...), ringOf(nexts[1], to...), next)
				same(t, r.what+", first", a, ringOf(nexts[0], from[r.n:]...))
				same(t, r.what+", second", b, ringOf(nexts[1], join(to, from[:r.n])...))
				same(t, r.what+", how many", n, r.n)
				same(t, r.what+", fault", f, none)
			}
		}
	}
}

// P2.5: Next goes only with next, from an empty List, and into one with room.
func TestStealNext(t *testing.T) {
	full := upTo(1000, api.MaxRing)
	rows := []struct {
		what     string
		from, to api.Ring
		next     bool
		a, b     api.Ring
		n        int
	}{
		{"into nothing", ringOf(1), api.Ring{}, true, api.Ring{}, ringOf(0, 1), 1},
		{"behind what is there", ringOf(1), ringOf(9, 8, 7), true, api.Ring{}, ringOf(9, 8, 7, 1), 1},
		{"not as Next", ringOf(1), ringOf(9), true, api.Ring{}, ringOf(9, 1), 1},
		{"from an empty list that is not nil", api.Ring{Next: 1, List: []int{}}, api.Ring{}, true, api.Ring{}, ringOf(0, 1), 1},
		{"farthest task", ringOf(math.MaxInt), api.Ring{}, true, api.Ring{}, ringOf(0, math.MaxInt), 1},
		{"the last place", ringOf(1), ringOf(0, full[1:]...), true, api.Ring{}, ringOf(0, join(full[1:], []int{1})...), 1},
		{"no room", ringOf(1), ringOf(2, full...), true, ringOf(1), ringOf(2, full...), 0},
		{"without next", ringOf(1), ringOf(9, 8), false, ringOf(1), ringOf(9, 8), 0},
		{"no Next", api.Ring{}, ringOf(9, 8), true, api.Ring{}, ringOf(9, 8), 0},
		{"a List that becomes empty keeps Next", ringOf(1, 5), ringOf(9), true, ringOf(1), ringOf(9, 5), 1},
		{"a List keeps Next", ringOf(1, 5, 6), api.Ring{}, true, ringOf(1, 6), ringOf(0, 5), 1},
		{"both empty", api.Ring{}, api.Ring{}, true, api.Ring{}, api.Ring{}, 0},
	}
	for _, r := range rows {
		a, b, n, f := ring.Steal(r.from, r.to, r.next)
		same(t, r.what+", first", a, r.a)
		same(t, r.what+", second", b, r.b)
		same(t, r.what+", how many", n, r.n)
		same(t, r.what+", fault", f, none)
	}
}

// P2.5: each fault, its place, and the order where several apply; next changes nothing of it.
func TestStealFaults(t *testing.T) {
	full := upTo(1000, api.MaxRing)
	type row struct {
		what     string
		from, to api.Ring
		want     api.Fault
	}
	rows := []row{
		{"Next in both", ringOf(1), ringOf(1), fault(api.ErrSize, 0)},
		{"Next is in the other's List", ringOf(1, 2), ringOf(3, 4, 1), fault(api.ErrSize, 0)},
		{"List has the other's Next", ringOf(1, 2, 5), ringOf(5, 4), fault(api.ErrSize, 0)},
		{"in both Lists", ringOf(1, 2, 5, 6), ringOf(3, 6, 4), fault(api.ErrSize, 0)},
		{"one that would not go", ringOf(0, 1, 2, 3, 4), ringOf(0, 4), fault(api.ErrSize, 0)},
		{"no room", ringOf(0, 1000), ringOf(0, full...), fault(api.ErrSize, 0)},
		{"last of both", ringOf(0, full...), ringOf(0, join(upTo(2000, api.MaxRing-1), full[api.MaxRing-1:])...), fault(api.ErrSize, 0)},
		{"the same ring", ringOf(1, 2, 3), ringOf(1, 2, 3), fault(api.ErrSize, 0)},
		{"the first ahead of the second", ringOf(0, 5, 0), ringOf(-1), fault(api.ErrRange, 2)},
		{"the first's later point ahead of the second's earlier", ringOf(0, 5, 5), ringOf(0, make([]int, api.MaxRing+1)...), fault(api.ErrTwice, 2)},
		{"the second's Check ahead of tasks in both", ringOf(0, 5), ringOf(0, 5, 0), fault(api.ErrRange, 2)},
	}
	for _, w := range wrongRings() {
		rows = append(rows,
			row{"first: " + w.what, w.q, api.Ring{}, w.want},
			row{"second: " + w.what, api.Ring{}, w.q, w.want},
			row{"both: " + w.what, w.q, w.q, w.want},
			row{"first ahead: " + w.what, w.q, ringOf(-7), w.want},
			row{"second ahead of both: " + w.what, ringOf(0, upTo(1, api.MaxRing)...), w.q, w.want})
	}
	for _, r := range rows {
		for _, next := range []bool{false, true} {
			a, b, n, f := ring.Steal(r.from, r.to, next)
			same(t, r.what, f, r.want)
			bare(t, r.what, []api.Ring{a, b}, nil, n)
		}
	}
}

// P2.5: two rings without Next have no task in both.
func TestStealWithoutNexts(t *testing.T) {
	a, b, n, f := ring.Steal(ringOf(0, 1, 2, 3), ringOf(0, 4), false)
	same(t, "steal", fmt.Sprint(a, b, n, f), "{0 [3]} {0 [4 1 2]} 2 {0 0}")
}
