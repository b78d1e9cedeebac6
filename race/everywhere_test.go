package race_test

import (
	"fmt"
	"math"
	"math/rand"
	"slices"
	"testing"

	"taskmill/api"
	"taskmill/order"
	"taskmill/race"
)

// answers are what all calls answer of a trace, told.
func answers(trace []api.Event, pipes []int) string {
	pairs, f := race.All(trace, pipes)
	first, g := race.First(trace, pipes)
	guards, h := race.Guards(trace, pipes)
	return told(pairs, f, first, g, guards, h, len(guards))
}

// answersByTheWords are what the document's words have them answer.
func answersByTheWords(t *testing.T, trace []api.Event, pipes []int) string {
	t.Helper()
	if f := order.Check(trace, pipes); f != none {
		return told([][2]int{}, f, 0, f, [][]int{}, f, 0)
	}
	pairs, guards := racesByTheWords(trace, before(t, trace, pipes)), guardsByTheWords(trace)
	first, f, g := 0, none, fault(api.ErrNone, 0)
	if len(pairs) > 0 {
		first, g = pairs[0][1], none
	}
	if len(pairs) > api.MaxList {
		pairs, f = nil, fault(api.ErrMuch, 0)
	}
	return told(pairs, f, first, g, guards, none, len(guards))
}

// askAll asks all calls for what the document's words say, and that they answer the same again.
func askAll(t *testing.T, trace []api.Event, pipes []int) {
	t.Helper()
	want := answersByTheWords(t, trace, pipes)
	for range 2 {
		if got := answers(trace, pipes); got != want {
			t.Fatalf("got %.2000s\nwant %.2000s\nof %v %v", got, want, trace, pipes)
		}
	}
}

// anyTrace is a right one with few tasks and things, so that there are both races and edges; most came from no run.
func anyTrace(r *rand.Rand, many int) ([]api.Event, []int) {
	var pipes []int
	for range r.Intn(3) {
		pipes = append(pipes, r.Intn(4))
	}
	ops := []int{
		api.OpPrint, api.OpGo, api.OpLoad, api.OpLoad, api.OpLoad, api.OpStore, api.OpStore, api.OpStore,
		api.OpLock, api.OpLock, api.OpLock, api.OpUnlock, api.OpUnlock, api.OpCount, api.OpWait, api.OpPanic,
		api.OpSend, api.OpSend, api.OpGet, api.OpGet, api.OpShut,
	}
	tasks, things := 1+r.Intn(5), 1+r.Intn(3)
	var trace []api.Event
	for range many {
		e := api.Event{Task: 1 + r.Intn(tasks), Op: ops[r.Intn(len(ops))], Obj: r.Intn(things), Value: r.Intn(3)}
		switch {
		case e.Op == api.OpGo:
			e.Value = 1 + r.Intn(tasks)
		case e.Op >= api.OpSend && e.Op <= api.OpShut && len(pipes) == 0:
			e.Op = api.OpStore
		case e.Op >= api.OpSend && e.Op <= api.OpShut:
			e.Obj = r.Intn(len(pipes))
		case r.Intn(40) == 0:
			e.Obj = mostObj - r.Intn(2)
		}
		trace = append(trace, e)
	}
	return trace, pipes
}

// P14.1 to P14.3, at traces of all kinds: what the document's words say.
func TestAnyTraces(t *testing.T) {
	r := rand.New(rand.NewSource(141))
	for range 6000 {
		trace, pipes := anyTrace(r, r.Intn(13))
		askAll(t, trace, pipes)
	}
	for range 60 {
		trace, pipes := anyTrace(r, 13+r.Intn(50))
		askAll(t, trace, pipes)
	}
}

// P14.1 to P14.3, at all short traces of a cell, a lock and a pipe: what the document's words say.
func TestShortTraces(t *testing.T) {
	asked := 0
	var all func(trace []api.Event, left int)
	all = func(trace []api.Event, left int) {
		if left == 0 {
			asked++
			askAll(t, trace, []int{asked % 2})
			return
		}
		for _, op := range []int{api.OpLoad, api.OpStore, api.OpLock, api.OpUnlock, api.OpSend, api.OpGet} {
			for _, task := range []int{1, 2} {
				all(append(slices.Clone(trace), api.Event{Task: task, Op: op, Value: 1}), left-1)
			}
		}
	}
	for many := range 5 {
		all(nil, many)
	}
	same(t, "traces", asked, 1+12+144+1728+20736)
}

// P14.3, at all traces of one task with one lock, up to seven events, each with an access behind it.
func TestShortHolds(t *testing.T) {
	var all func(trace []api.Event, left int)
	all = func(trace []api.Event, left int) {
		whole := append(slices.Clone(trace), events("1 store")...)
		same(t, fmt.Sprint(trace), guardsTold(t, whole, nil), guardsByTheWords(whole))
		for _, op := range []int{api.OpLock, api.OpUnlock} {
			for _, task := range []int{1, 2} {
				if left > 0 {
					all(append(slices.Clone(trace), api.Event{Task: task, Op: op}), left-1)
				}
			}
		}
	}
	all(nil, 7)
}

// P1: as many events as may be, by as many tasks, with all things, and one more.
func TestLongTraces(t *testing.T) {
	r := rand.New(rand.NewSource(142))
	for range 20 {
		trace, pipes := anyTrace(r, mostEvents)
		for at := range trace {
			trace[at].Task = 1 + r.Intn(api.MaxTask)
		}
		same(t, "guards", guardsTold(t, trace, pipes), guardsByTheWords(trace))
		same(t, "again", answers(trace, pipes), answers(trace, pipes))
		want := told([][2]int{}, fault(api.ErrMany, 0), 0, fault(api.ErrMany, 0), [][]int{}, fault(api.ErrMany, 0), 0)
		same(t, "one more", answers(append(trace, trace[0]), pipes), want)
	}
}

// P14.1, P14.2, at long traces with some races: what Clocks has of each pair.
func TestLongTracesWithSomeRaces(t *testing.T) {
	r := rand.New(rand.NewSource(143))
	for range 5 {
		var trace []api.Event
		for len(trace)+3 <= mostEvents {
			task, cell, lock := 1+r.Intn(api.MaxTask), r.Intn(mostObj+1), 0
			if r.Intn(60) == 0 {
				lock = 1
			}
			trace = append(trace, api.Event{Task: task, Op: api.OpLock, Obj: lock, Value: 1},
				api.Event{Task: task, Op: api.OpLoad + r.Intn(2), Obj: cell}, api.Event{Task: task, Op: api.OpUnlock, Obj: lock, Value: 1})
		}
		clocks, f := order.Clocks(trace, nil)
		same(t, "clocks", f, none)
		before := make([][]bool, len(trace))
		for i, e := range trace {
			for k := range trace {
				before[i] = append(before[i], i < k && clocks[k][e.Task-1] >= clocks[i][e.Task-1])
			}
		}
		want := racesByTheWords(trace, before)
		got, f := race.All(trace, nil)
		same(t, "fault", f, none)
		same(t, "all", slices.Equal(got, want), true)
		if len(want) < 10 {
			t.Errorf("%d races alone", len(want))
		}
		askFirst(t, "of many", trace, nil, want[0][1])
	}
}

// P1: no call panics whatever it is given, and each answers what the document's words say, and the same again.
func TestWildInputs(t *testing.T) {
	r := rand.New(rand.NewSource(144))
	wild := []int{math.MinInt, math.MaxInt, -2, -1, 0, 1, 2, 7, 8, 12, 13, 17, 18, 20, 21, 22, 23, 64, 65, 100, 101, 1 << 32, 1<<32 + 1}
	spoil := func(n *int) {
		if r.Intn(40) == 0 {
			*n = wild[r.Intn(len(wild))]
		}
	}
	codes := map[int]int{}
	const times = 10000
	for range times {
		trace, pipes := anyTrace(r, r.Intn(8))
		for at := range trace {
			for _, n := range []*int{&trace[at].Task, &trace[at].Op, &trace[at].Obj, &trace[at].Value} {
				spoil(n)
			}
		}
		for at := range pipes {
			spoil(&pipes[at])
		}
		if r.Intn(40) == 0 {
			pipes = make([]int, 20+r.Intn(2))
		}
		askAll(t, trace, pipes)
		codes[order.Check(trace, pipes).Code]++
	}
	for _, code := range []int{api.OK, api.ErrMany, api.ErrRange, api.ErrSize, api.ErrKind, api.ErrForm} {
		if codes[code] < times/200 {
			t.Errorf("not all kinds were asked: %v", codes)
		}
	}
}

// P1: the farthest numbers, everywhere at once.
func TestFarthest(t *testing.T) {
	for _, n := range append(far(), 0, 1, 12, 13, 20, 21, 64, 65) {
		askAll(t, []api.Event{{Task: n, Op: n, Obj: n, Value: n}}, []int{n})
		for op := api.OpPrint; op <= api.OpPanic; op++ {
			askAll(t, []api.Event{{Task: 1, Op: op, Value: n}, {Task: n, Op: op, Obj: n, Value: n}}, []int{1, 0})
			askAll(t, []api.Event{{Task: 1, Op: op, Value: n}, {Task: 2, Op: op, Value: n}}, []int{1})
			askAll(t, []api.Event{{Task: 1, Op: op, Value: n}, {Task: 2, Op: op, Obj: n}}, nil)
		}
	}
}
