package ring_test

import (
	"fmt"
	"math/rand"
	"slices"
	"testing"

	"taskmill/api"
	"taskmill/ring"
)

// tasks are all tasks of some rings and lists, sorted: none is lost or there twice if they stay the same.
func tasks(rings []api.Ring, lists ...[]int) []int {
	all := join(lists...)
	for _, q := range rings {
		if q.Next != 0 {
			all = append(all, q.Next)
		}
		all = append(all, q.List...)
	}
	slices.Sort(all)
	return all
}

// What follows: no task is lost, and none is there twice.
func TestNoTaskIsLost(t *testing.T) {
	r := rand.New(rand.NewSource(2))
	for range 1000 {
		q := anyRing(r, 1, r.Intn(8)+r.Intn(2)*(api.MaxRing-6))
		to := anyRing(r, 1000, r.Intn(8)+r.Intn(2)*(api.MaxRing-6))
		next := r.Intn(2) == 0
		then, spilt, f := ring.Put(q, 500, next)
		same(t, "put", fmt.Sprint(tasks([]api.Ring{then}, spilt), f, ring.Check(then)), fmt.Sprint(tasks([]api.Ring{q}, []int{500}), none, none))
		if then, task, f := ring.Take(q); f == none {
			same(t, "take", fmt.Sprint(tasks([]api.Ring{then}, []int{task}), ring.Check(then)), fmt.Sprint(tasks([]api.Ring{q}), none))
		}
		then, rest, f := ring.Refill(q, to.List, 1+r.Intn(4))
		same(t, "refill", fmt.Sprint(tasks([]api.Ring{then}, rest), f, ring.Check(then)), fmt.Sprint(tasks([]api.Ring{q}, to.List), none, none))
		a, b, n, f := ring.Steal(q, to, next)
		same(t, "steal", fmt.Sprint(tasks([]api.Ring{a, b}), f, ring.Check(a), ring.Check(b)), fmt.Sprint(tasks([]api.Ring{q, to}), none, none, none))
		same(t, "how many went", n, len(b.List)-len(to.List))
	}
}

// What follows: what is put without next, and never stolen, is taken in the order in which it was put, also around what spills.
// The tasks' numbers rise, so that their order shows.
func TestTakenAsPut(t *testing.T) {
	r := rand.New(rand.NewSource(3))
	for range 5 {
		q, spills, last := api.Ring{}, 0, 0
		for task := 1; task <= 2000; task++ {
			var spilt []int
			var f api.Fault
			if r.Intn(9) == 0 {
				q, _, f = ring.Take(q)
			} else {
				q, spilt, f = ring.Put(q, task, false)
			}
			if f != none && f.Code != api.ErrNone {
				t.Fatal(f)
			}
			if len(spilt) > 0 {
				spills++
			}
			if !slices.IsSorted(spilt) || !slices.IsSorted(q.List) {
				t.Fatalf("out of order: %v, spilt %v", q, spilt)
			}
		}
		for len(q.List) > 0 {
			var task int
			q, task, _ = ring.Take(q)
			if task <= last {
				t.Fatalf("%d is taken behind %d", task, last)
			}
			last = task
		}
		if spills == 0 {
			t.Error("nothing has spilt")
		}
	}
}

// What follows: a task that is put with next is taken first, and those without still come in their order.
func TestTakenAsPutBesideNext(t *testing.T) {
	q := api.Ring{}
	for task := 1; task <= 10; task++ {
		q, _, _ = ring.Put(q, task, false)
		q, _, _ = ring.Put(q, 100+task, true)
		var taken int
		q, taken, _ = ring.Take(q)
		same(t, "with next", taken, 100+task)
	}
	for task := 1; task <= 10; task++ {
		var taken int
		q, taken, _ = ring.Take(q)
		same(t, "without next", taken, task)
	}
}

// P1: no call panics whatever it is given, each answers the same again, and with a fault there is nothing else.
func TestWildInputs(t *testing.T) {
	r := rand.New(rand.NewSource(4))
	for range 20000 {
		q := api.Ring{Next: wildNumber(r) * r.Intn(2), List: wildList(r, r.Intn(4))}
		to := api.Ring{Next: wildNumber(r) * r.Intn(2), List: wildList(r, r.Intn(4))}
		task, procs, next := wildNumber(r), wildNumber(r), r.Intn(2) == 0
		same(t, "again", tellAll(t, q, to, task, procs, next), tellAll(t, q, to, task, procs, next))
	}
}

func tellAll(t *testing.T, q, to api.Ring, task, procs int, next bool) string {
	wrong := ring.Check(q)
	ask := func(what string, f api.Fault, rings []api.Ring, list []int, number int) string {
		if f != none {
			bare(t, what, rings, list, number)
		}
		if wrong != none {
			same(t, what+": what Check says", f, wrong)
		}
		return fmt.Sprintln(f, rings, list, number)
	}
	put, spilt, f := ring.Put(q, task, next)
	text := ask("put", f, []api.Ring{put}, spilt, 0)
	taken, first, f := ring.Take(q)
	text += ask("take", f, []api.Ring{taken}, nil, first)
	filled, rest, f := ring.Refill(q, to.List, procs)
	text += ask("refill", f, []api.Ring{filled}, rest, 0)
	a, b, n, f := ring.Steal(q, to, next)
	return text + ask("steal", f, []api.Ring{a, b}, nil, n)
}

// roomy lists have more behind their length, which nobody may read or write.
func roomy(list []int) (short, whole []int) {
	whole = join(list, []int{-77, -77, -77})
	return whole[:len(list)], whole
}

// ask is a call, with a name, that answers rings and lists; the numbers beside them are none of its matter.
type ask struct {
	what string
	call func(q, to api.Ring, global []int) [][]int
}

func asks() []ask {
	putting := func(task int, next bool) func(q, to api.Ring, global []int) [][]int {
		return func(q, to api.Ring, global []int) [][]int {
			then, spilt, _ := ring.Put(q, task, next)
			return [][]int{then.List, spilt}
		}
	}
	stealing := func(next bool) func(q, to api.Ring, global []int) [][]int {
		return func(q, to api.Ring, global []int) [][]int {
			a, b, _, _ := ring.Steal(q, to, next)
			return [][]int{a.List, b.List}
		}
	}
	return []ask{
		{"check", func(q, to api.Ring, global []int) [][]int { ring.Check(q); return nil }},
		{"put", putting(5000, false)},
		{"put with next", putting(5000, true)},
		{"put wrongly", putting(0, true)},
		{"take", func(q, to api.Ring, global []int) [][]int {
			then, _, _ := ring.Take(q)
			return [][]int{then.List}
		}},
		{"refill", func(q, to api.Ring, global []int) [][]int {
			then, rest, _ := ring.Refill(q, global, 2)
			return [][]int{then.List, rest}
		}},
		{"refill without global", func(q, to api.Ring, global []int) [][]int {
			then, rest, _ := ring.Refill(q, global[:0], 2)
			return [][]int{then.List, rest}
		}},
		{"steal", stealing(false)},
		{"steal with next", stealing(true)},
	}
}

// Lists that are handed in are only read, what lies behind their length is neither read nor written,
// what is answered is new memory, and no two lists of one answer share any.
func TestMemoryIsApart(t *testing.T) {
	for _, n := range []int{0, 1, 4, api.MaxRing - 1, api.MaxRing} {
		for _, m := range []int{0, 3, api.MaxRing - 1, api.MaxRing} {
			for _, next := range []int{0, 1} {
				list, wholeList := roomy(upTo(10, n))
				other, wholeOther := roomy(upTo(1000, m))
				global, wholeGlobal := roomy(upTo(2000, 5))
				q, to := ringOf(next, list...), api.Ring{List: other}
				before := fmt.Sprint(wholeList, wholeOther, wholeGlobal)
				for _, a := range asks() {
					apart(t, a, q, to, global)
					same(t, a.what+": what was handed in", fmt.Sprint(wholeList, wholeOther, wholeGlobal), before)
				}
			}
		}
	}
}

// apart writes over all the memory of each list of an answer, also behind its length, and looks at what else has changed.
func apart(t *testing.T, a ask, q, to api.Ring, global []int) {
	t.Helper()
	want := fmt.Sprint(a.call(q, to, global))
	for i := range a.call(q, to, global) {
		lists := a.call(q, to, global)
		others := slices.Delete(slices.Clone(lists), i, i+1)
		before := fmt.Sprint(others)
		whole := lists[i][:cap(lists[i])]
		for k := range whole {
			whole[k] = 4444
		}
		same(t, a.what+": the other lists", others, before)
		same(t, a.what+": the next answer", a.call(q, to, global), want)
	}
}
