package order_test

import (
	"fmt"
	"math"
	"math/rand"
	"slices"
	"testing"

	"taskmill/api"
	"taskmill/order"
)

// askAll asks all calls for what the document's words say, and that they answer the same again. Before is asked for all pairs of a short trace, and for some of a long one.
func askAll(t *testing.T, r *rand.Rand, trace []api.Event, pipes []int) api.Fault {
	t.Helper()
	want := checkByTheWords(trace, pipes)
	var clocks [][]int
	var before [][]bool
	if want == none {
		clocks, before = clocksByTheWords(trace, pipes), orderByTheWords(trace, pipes)
	}
	for range 2 {
		if got := order.Check(trace, pipes); got != want {
			t.Fatalf("check: got %v, want %v, of %v %v", got, want, trace, pipes)
		}
		if got, f := order.Clocks(trace, pipes); f != want || fmt.Sprint(got) != fmt.Sprint(clocks) {
			t.Fatalf("clocks: got %v %v\nwant %v %v\nof %v %v", got, f, clocks, want, trace, pipes)
		}
	}
	for _, pair := range somePairs(r, len(trace)) {
		i, k := pair[0], pair[1]
		is, f := order.Before(trace, pipes, i, k)
		wantIs, wantF := false, want
		if want == none && (outside(i, 0, len(trace)-1) || outside(k, 0, len(trace)-1)) {
			wantF = fault(api.ErrRange, -1)
		} else if want == none {
			wantIs = before[i][k]
		}
		if is != wantIs || f != wantF {
			t.Fatalf("before %d %d: got %v %v, want %v %v, of %v %v", i, k, is, f, wantIs, wantF, trace, pipes)
		}
	}
	return want
}

// somePairs are all pairs of events, and some beside, where there are few, or else some.
func somePairs(r *rand.Rand, many int) [][2]int {
	var pairs [][2]int
	if many > 12 {
		for range 20 {
			pairs = append(pairs, [2]int{r.Intn(many), r.Intn(many)})
		}
		return append(pairs, [2]int{-1, 0}, [2]int{many, 0}, [2]int{0, many})
	}
	for i := -1; i <= many; i++ {
		for k := -1; k <= many; k++ {
			pairs = append(pairs, [2]int{i, k})
		}
	}
	return pairs
}

// anyTrace is a right one with few tasks and things, so that there are many edges; most came from no run.
func anyTrace(r *rand.Rand, many int) ([]api.Event, []int) {
	var pipes []int
	for range r.Intn(3) {
		pipes = append(pipes, r.Intn(4))
	}
	ops := []int{
		api.OpPrint, api.OpGo, api.OpLoad, api.OpLock, api.OpLock, api.OpUnlock, api.OpUnlock, api.OpCount, api.OpWait, api.OpPanic,
		api.OpSend, api.OpSend, api.OpSend, api.OpSend, api.OpGet, api.OpGet, api.OpGet, api.OpGet, api.OpGet, api.OpShut,
	}
	tasks, things := 1+r.Intn(6), 1+r.Intn(2)
	var trace []api.Event
	for range many {
		e := api.Event{Task: 1 + r.Intn(tasks), Op: ops[r.Intn(len(ops))], Obj: r.Intn(things), Value: r.Intn(3)}
		switch {
		case e.Op == api.OpGo:
			e.Value = 1 + r.Intn(tasks)
		case e.Op >= api.OpSend && e.Op <= api.OpShut && len(pipes) == 0:
			e.Op = api.OpEnd
		case e.Op >= api.OpSend && e.Op <= api.OpShut:
			e.Obj = r.Intn(len(pipes))
		}
		trace = append(trace, e)
	}
	return trace, pipes
}

// P13.1 to P13.3, at traces of all kinds: what the document's words say.
func TestAnyTraces(t *testing.T) {
	r := rand.New(rand.NewSource(131))
	for range 4000 {
		trace, pipes := anyTrace(r, r.Intn(13))
		askAll(t, r, trace, pipes)
	}
	for range 800 {
		trace, pipes := anyTrace(r, 13+r.Intn(60))
		askAll(t, r, trace, pipes)
	}
}

// P13.1 to P13.3, at all short traces of a pipe: what the document's words say.
func TestShortTraces(t *testing.T) {
	r := rand.New(rand.NewSource(132))
	asked := 0
	var all func(trace []api.Event, left int, tasks func(at int) []int)
	all = func(trace []api.Event, left int, tasks func(at int) []int) {
		if left == 0 {
			asked++
			for holds := range 3 {
				askAll(t, r, trace, []int{holds})
			}
			return
		}
		for _, op := range []int{api.OpSend, api.OpGet, api.OpShut} {
			for _, task := range tasks(len(trace)) {
				all(append(slices.Clone(trace), api.Event{Task: task, Op: op}), left-1, tasks)
			}
		}
	}
	for many := range 5 {
		all(nil, many, func(int) []int { return []int{1, 2} })
	}
	all(nil, 6, func(at int) []int { return []int{at + 1} })
	same(t, "traces", asked, 1+6+36+216+1296+729)
}

// P1: as many events as may be.
func TestLongTraces(t *testing.T) {
	r := rand.New(rand.NewSource(133))
	for range 3 {
		trace, pipes := anyTrace(r, mostEvents)
		askAll(t, r, trace, pipes)
		for at := range trace {
			trace[at].Task = 1 + r.Intn(api.MaxTask)
			if trace[at].Op == api.OpGo {
				trace[at].Value = 1 + r.Intn(api.MaxTask)
			}
		}
		askAll(t, r, trace, pipes)
		same(t, "one more", askAll(t, r, append(trace, trace[0]), pipes), fault(api.ErrMany, 0))
	}
}

// P1: no call panics whatever it is given, and each answers what the document's words say, and the same again.
func TestWildInputs(t *testing.T) {
	r := rand.New(rand.NewSource(134))
	wild := []int{math.MinInt, math.MaxInt, -2, -1, 0, 1, 2, 7, 8, 19, 20, 21, 22, 23, 64, 65, 100, 101, 1 << 32, 1<<32 + 1}
	spoil := func(n *int) {
		if r.Intn(40) == 0 {
			*n = wild[r.Intn(len(wild))]
		}
	}
	codes := map[int]int{}
	const times = 10000
	for range times {
		trace, pipes := anyTrace(r, r.Intn(8))
		for at := range trace {
			for _, n := range []*int{&trace[at].Task, &trace[at].Op, &trace[at].Obj, &trace[at].Value} {
				spoil(n)
			}
		}
		for at := range pipes {
			spoil(&pipes[at])
		}
		if r.Intn(40) == 0 {
			pipes = make([]int, 20+r.Intn(2))
		}
		codes[askAll(t, r, trace, pipes).Code]++
		for range 3 {
			i, k := wild[r.Intn(len(wild))], wild[r.Intn(len(wild))]
			is, f := order.Before(trace, pipes, i, k)
			again, g := order.Before(trace, pipes, i, k)
			same(t, "again", told(again, g), told(is, f))
		}
	}
	for _, code := range []int{api.OK, api.ErrMany, api.ErrRange, api.ErrSize, api.ErrKind, api.ErrForm} {
		if codes[code] < times/200 {
			t.Errorf("not all kinds were asked: %v", codes)
		}
	}
}

// P1: the farthest numbers, everywhere at once.
func TestFarthest(t *testing.T) {
	r := rand.New(rand.NewSource(135))
	for _, n := range append(far(), 0, 1, 20, 21, 64, 65) {
		askAll(t, r, []api.Event{{Task: n, Op: n, Obj: n, Value: n}}, []int{n})
		for op := api.OpPrint; op <= api.OpPanic; op++ {
			askAll(t, r, []api.Event{{Task: 1, Op: op, Value: n}, {Task: n, Op: op, Obj: n, Value: n}}, []int{1, 0})
			askAll(t, r, []api.Event{{Task: 1, Op: op, Value: n}, {Task: 2, Op: op, Obj: n}}, nil)
		}
		_, f := order.Before(nil, nil, n, n)
		same(t, "of no events", f, fault(api.ErrRange, -1))
	}
}
