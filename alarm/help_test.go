package alarm_test

import (
	"fmt"
	"math"
	"math/rand"
	"slices"
	"testing"

	"taskmill/api"
)

func fault(code, at int) api.Fault { return api.Fault{Code: code, At: at} }

var none = api.Fault{}

// heap has a timer for each When; the tasks are the places plus 1, so that timers of one When are told apart.
func heap(whens ...int) []api.Timer {
	list := make([]api.Timer, len(whens))
	for i, when := range whens {
		list[i] = api.Timer{When: when, Task: i + 1}
	}
	return list
}

// timers has a timer for each pair of a When and a Task.
func timers(pairs ...[2]int) []api.Timer {
	list := make([]api.Timer, len(pairs))
	for i, p := range pairs {
		list[i] = api.Timer{When: p[0], Task: p[1]}
	}
	return list
}

// rising is the heap of the Whens first, first + 1, and so on, n timers in all.
func rising(first, n int) []api.Timer {
	whens := make([]int, n)
	for i := range whens {
		whens[i] = first + i
	}
	return heap(whens...)
}

// falling is the list of the Whens n - 1, n - 2, and so on, down to 0.
func falling(n int) []api.Timer {
	whens := make([]int, n)
	for i := range whens {
		whens[i] = n - 1 - i
	}
	return heap(whens...)
}

// with is a new list with another timer at the place i.
func with(list []api.Timer, i int, t api.Timer) []api.Timer {
	list = slices.Clone(list)
	list[i] = t
	return list
}

// sorted is a new list by When, then by Task: two lists of the same timers become alike.
func sorted(lists ...[]api.Timer) []api.Timer {
	list := slices.Concat(lists...)
	slices.SortFunc(list, func(a, b api.Timer) int {
		if a.When != b.When {
			if a.When < b.When {
				return -1
			}
			return 1
		}
		return a.Task - b.Task
	})
	return list
}

// same holds two things against each other as they are told: nil and empty lists are the same.
func same(t *testing.T, what string, got, want any) {
	t.Helper()
	g, w := fmt.Sprint(got), fmt.Sprint(want)
	if g == w {
		return
	}
	if len(g)+len(w) > 2000 {
		t.Errorf("%s: not as wanted (%d and %d bytes)", what, len(g), len(w))
		return
	}
	t.Errorf("%s: got %v, want %v", what, g, w)
}

// bare asks that nothing stands beside a fault.
func bare(t *testing.T, what string, number int, one api.Timer, lists ...[]api.Timer) {
	t.Helper()
	for _, list := range lists {
		if len(list) != 0 {
			t.Errorf("%s: beside the fault stands a list of %d", what, len(list))
		}
	}
	if number != 0 || one != (api.Timer{}) {
		t.Errorf("%s: beside the fault stand %d and %v", what, number, one)
	}
}

// wrongHeap is a heap of which Check says something, and what it says.
type wrongHeap struct {
	what string
	h    []api.Timer
	want api.Fault
}

func wrongHeaps() []wrongHeap {
	const most = api.MaxList
	full := rising(10, most)
	at := func(place, when, task int) []api.Timer {
		return with(full[:max(place+1, 30)], place, api.Timer{When: when, Task: task})
	}
	return []wrongHeap{
		{"a timer too many", rising(0, most+1), fault(api.ErrMany, 0)},
		{"far too many", rising(0, 3*most), fault(api.ErrMany, 0)},
		{"task 0 alone", timers([2]int{5, 0}), fault(api.ErrRange, 0)},
		{"task below 0", timers([2]int{5, -1}), fault(api.ErrRange, 0)},
		{"task far below", timers([2]int{5, math.MinInt}), fault(api.ErrRange, 0)},
		{"When below 0", timers([2]int{-1, 5}), fault(api.ErrRange, 0)},
		{"When far below", timers([2]int{math.MinInt, 5}), fault(api.ErrRange, 0)},
		{"zero timer", make([]api.Timer, 1), fault(api.ErrRange, 0)},
		{"third's task", at(2, 12, 0), fault(api.ErrRange, 2)},
		{"task in the middle", at(17, 40, -3), fault(api.ErrRange, 17)},
		{"last of MaxList, task", at(most-1, most+20, 0), fault(api.ErrRange, most-1)},
		{"last of MaxList, When", at(most-1, -1, 1), fault(api.ErrRange, most-1)},
		{"second sooner than the first", heap(2, 1), fault(api.ErrForm, 1)},
		{"second far sooner", heap(math.MaxInt, 0), fault(api.ErrForm, 1)},
		{"third sooner than the first", heap(2, 3, 1), fault(api.ErrForm, 2)},
		{"fifth sooner than the first", heap(2, 3, 4, 5, 1), fault(api.ErrForm, 4)},
		{"sixth sooner than the second", heap(1, 5, 2, 2, 2, 4), fault(api.ErrForm, 5)},
		{"ninth sooner than the second", heap(1, 5, 2, 2, 2, 5, 5, 5, 4), fault(api.ErrForm, 8)},
		{"tenth sooner than the third", heap(1, 2, 5, 2, 2, 5, 5, 5, 5, 4), fault(api.ErrForm, 9)},
		{"twenty-first sooner than the fifth", at(20, 13, 1), fault(api.ErrForm, 20)},
		{"twenty-second sooner than the sixth", at(21, 14, 1), fault(api.ErrForm, 21)},
		{"last of MaxList sooner", at(most-1, 10+(most-2)/4-1, 1), fault(api.ErrForm, most-1)},

		{"many ahead of range", make([]api.Timer, most+1), fault(api.ErrMany, 0)},
		{"many ahead of form", falling(most + 1), fault(api.ErrMany, 0)},
		{"task ahead of form at one timer", timers([2]int{5, 1}, [2]int{4, 0}), fault(api.ErrRange, 1)},
		{"When ahead of form at one timer", timers([2]int{5, 1}, [2]int{-1, 1}), fault(api.ErrRange, 1)},
		{"an earlier range ahead of a later form", timers([2]int{5, 1}, [2]int{6, 0}, [2]int{4, 1}), fault(api.ErrRange, 1)},
		{"an earlier form ahead of a later range", timers([2]int{5, 1}, [2]int{4, 1}, [2]int{6, 0}), fault(api.ErrForm, 1)},
		{"the first of two ranges", timers([2]int{5, 1}, [2]int{5, 0}, [2]int{-1, 1}), fault(api.ErrRange, 1)},
		{"the first of two forms", heap(5, 6, 4, 3), fault(api.ErrForm, 2)},
		{"range above ahead of form below", timers([2]int{5, 0}, [2]int{4, 1}), fault(api.ErrRange, 0)},
	}
}

// below are the places of a list that have i above, by what the word says of all places.
func below(list []api.Timer, i int) []int {
	var places []int
	for k := 1; k < len(list); k++ {
		if int(math.Floor(float64(k-1)/4)) == i {
			places = append(places, k)
		}
	}
	return places
}

// sunk is a new list in which the timer at i has sunk, and its place then: the document's words, by search.
func sunk(list []api.Timer, i int) ([]api.Timer, int) {
	places := below(list, i)
	slices.SortStableFunc(places, func(a, b int) int { return list[a].When - list[b].When })
	if len(places) == 0 || list[places[0]].When >= list[i].When {
		return list, i
	}
	return sunk(with(with(list, i, list[places[0]]), places[0], list[i]), places[0])
}

// risen is a new list in which the timer at i has risen, and its place then.
func risen(list []api.Timer, i int) ([]api.Timer, int) {
	for k := range list {
		if slices.Contains(below(list, k), i) && list[k].When > list[i].When {
			return risen(with(with(list, i, list[k]), k, list[i]), k)
		}
	}
	return list, i
}

// dropped is what Drop should answer, and how far its stead-in rose and sank, in places.
func dropped(h []api.Timer, i int) (then []api.Timer, rose, sank int) {
	then = slices.Clone(h[:len(h)-1])
	if i == len(then) {
		return then, 0, 0
	}
	then[i] = h[len(then)]
	then, place := risen(then, i)
	if place != i {
		return then, i - place, 0
	}
	then, place = sunk(then, i)
	return then, 0, place - i
}

// anyList is a list of n right timers in any order; few Whens, so that many are the same.
func anyList(r *rand.Rand, n, whens int) []api.Timer {
	list := make([]api.Timer, n)
	for i := range list {
		list[i] = api.Timer{When: r.Intn(whens), Task: i + 1}
	}
	return list
}

// anyHeap is a heap of n timers, made without the program: each When is that above it, and some more.
func anyHeap(r *rand.Rand, n, more int) []api.Timer {
	h := anyList(r, n, more)
	for i := 1; i < n; i++ {
		h[i].When += h[(i-1)/4].When
	}
	return h
}

// wildNumber is mostly a small one, at times one of the farthest.
func wildNumber(r *rand.Rand) int {
	far := []int{math.MinInt, math.MaxInt, -1, 0, 1 << 32}
	if r.Intn(24) == 0 {
		return far[r.Intn(len(far))]
	}
	return 1 + r.Intn(20)
}

func wildTimer(r *rand.Rand) api.Timer {
	return api.Timer{When: wildNumber(r), Task: wildNumber(r)}
}
