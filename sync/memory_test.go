package sync_test

import (
	"fmt"
	"testing"

	"taskmill/api"
	"taskmill/sync"
)

// roomy is the list with more behind its length, which nobody may read or write; whole is as long as its memory.
func roomy[E any](list []E, behind E) (short, whole []E) {
	whole = plus(list, behind, behind, behind)
	return whole[:len(list)], whole
}

// answer is the lists that a call answers.
type answer struct {
	line  []int
	wants []api.Want
	tasks []int
}

// spoil writes over all the memory of a list, also behind its length.
func spoil[E any](list []E, with E) {
	whole := list[:cap(list)]
	for i := range whole {
		whole[i] = with
	}
}

// spoilers spoil one list of an answer each, and take it out of the answer.
func spoilers() []func(got *answer) {
	return []func(got *answer){
		func(got *answer) { spoil(got.line, 4444); got.line = nil },
		func(got *answer) { spoil(got.wants, wants(4444, 4444)); got.wants = nil },
		func(got *answer) { spoil(got.tasks, 4444); got.tasks = nil },
	}
}

// without are copies of an answer of which each is without one list, in the order of the spoilers.
func without(got answer) []answer {
	list := []answer{got, got, got}
	list[0].line, list[1].wants, list[2].tasks = nil, nil, nil
	return list
}

// ask is a call of a thing with that line, with a name.
type ask[E any] struct {
	what string
	call func(line []E) answer
}

func groupAsks() []ask[int] {
	add := func(count, n int) func(line []int) answer {
		return func(line []int) answer {
			then, tasks, _, _ := sync.Add(group(count, line...), n)
			return answer{line: then.Line, tasks: tasks}
		}
	}
	await := func(count, task int) func(line []int) answer {
		return func(line []int) answer {
			then, _, _ := sync.Await(group(count, line...), task)
			return answer{line: then.Line}
		}
	}
	return []ask[int]{
		{"add", add(2, 1)},
		{"add nothing", add(2, 0)},
		{"add to 0", add(2, -2)},
		{"add below 0", add(2, -3)},
		{"add wrongly", add(much, 1)},
		{"add to none", add(0, 1)},
		{"await", await(2, 9*most)},
		{"await nothing", await(0, 9*most)},
		{"await wrongly", await(2, 0)},
	}
}

func onceAsks() []ask[int] {
	begin := func(o api.Once, task int) func(line []int) answer {
		return func(line []int) answer {
			o.Line = line
			then, _, _ := sync.Begin(o, task)
			return answer{line: then.Line}
		}
	}
	end := func(o api.Once, task int) func(line []int) answer {
		return func(line []int) answer {
			o.Line = line
			then, tasks, _ := sync.End(o, task)
			return answer{line: then.Line, tasks: tasks}
		}
	}
	return []ask[int]{
		{"begin", begin(once(0), 9*most)},
		{"begin, begun", begin(once(8*most), 9*most)},
		{"begin, done", begin(done(0), 9*most)},
		{"begin wrongly", begin(once(8*most), 8*most)},
		{"end", end(once(8*most), 8*most)},
		{"end wrongly", end(once(8*most), 9*most)},
	}
}

func gateAsks() []ask[int] {
	arrive := func(need func(line []int) int, task int) func(line []int) answer {
		return func(line []int) answer {
			then, tasks, _ := sync.Arrive(gate(need(line), line...), task)
			return answer{line: then.Line, tasks: tasks}
		}
	}
	just := func(line []int) int { return len(line) + 1 }
	more := func(line []int) int { return most }
	return []ask[int]{
		{"arrive, the last", arrive(just, 9*most)},
		{"arrive, one ahead of the last", arrive(more, 9*most)},
		{"arrive wrongly", arrive(more, 0)},
	}
}

func semaAsks() []ask[api.Want] {
	acquire := func(free, task, n int, try bool) func(line []api.Want) answer {
		return func(line []api.Want) answer {
			then, _, _ := sync.Acquire(sema(free, line...), task, n, try)
			return answer{wants: then.Line}
		}
	}
	release := func(free, n int) func(line []api.Want) answer {
		return func(line []api.Want) answer {
			then, tasks, _ := sync.Release(sema(free, line...), n)
			return answer{wants: then.Line, tasks: tasks}
		}
	}
	return []ask[api.Want]{
		{"acquire", acquire(1, 9*most, 1, false)},
		{"acquire more", acquire(1, 9*most, 2, false)},
		{"acquire, try", acquire(1, 9*most, 1, true)},
		{"acquire more, try", acquire(1, 9*most, 2, true)},
		{"acquire wrongly", acquire(1, 0, 1, false)},
		{"release nothing", release(1, 0)},
		{"release for one", release(1, 1)},
		{"release for two", release(1, 4)},
		{"release for all", release(1, 3*most)},
		{"release wrongly", release(1, -1)},
	}
}

// Lists that are handed in are only read, what lies behind their length is neither read nor written,
// what is answered is new memory, and no two lists of one answer share any.
func TestMemoryIsApart(t *testing.T) {
	for _, line := range [][]int{nil, {}, {3}, {3, 1}, {5, 4, 3, 2, 1}, upTo(1, most-1), upTo(1, most), {3, 3}} {
		for _, a := range append(append(groupAsks(), onceAsks()...), gateAsks()...) {
			apart(t, a, line, -77)
		}
	}
	for _, line := range [][]api.Want{
		nil,
		{},
		{wants(3, 2)},
		{wants(3, 2), wants(1, 3)},
		{wants(3, 2), wants(1, 3), wants(4, 2), wants(2, 1)},
		manyWant(1, most-1, 2),
		manyWant(1, most, 2),
		{wants(3, 2), wants(3, 2)},
	} {
		for _, a := range semaAsks() {
			apart(t, a, line, writes(-77, -77))
		}
	}
}

// apart spoils each list of an answer, and looks at what else has changed.
func apart[E any](t *testing.T, a ask[E], line []E, behind E) {
	t.Helper()
	short, whole := roomy(line, behind)
	before, want := fmt.Sprint(whole), fmt.Sprint(a.call(line))
	for i, spoils := range spoilers() {
		got := a.call(short)
		same(t, a.what+": with more behind", got, want)
		rest := fmt.Sprint(without(got)[i])
		spoils(&got)
		same(t, a.what+": the other lists", got, rest)
		same(t, a.what+": what was handed in", whole, before)
		same(t, a.what+": the next answer", a.call(short), want)
	}
}
