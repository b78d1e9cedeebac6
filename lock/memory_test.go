package lock_test

import (
	"fmt"
	"testing"

	"taskmill/api"
	"taskmill/lock"
)

// roomy is the lock with more behind the length of its line, which nobody may read or write.
// whole has the same line, as long as its memory is.
func roomy(l api.Lock) (short, whole api.Lock) {
	behind := api.Want{Task: -77, N: -77}
	whole = l
	whole.Line = append(append([]api.Want{}, l.Line...), behind, behind, behind)
	short = whole
	short.Line = whole.Line[:len(l.Line)]
	return short, whole
}

// answer is what a call answers.
type answer struct {
	l     api.Lock
	tasks []int
}

// spoilers write over all the memory of one list of an answer each, also behind its length; and take it out of the answer.
func spoilers() []func(got *answer) {
	line := func(got *answer) {
		whole := got.l.Line[:cap(got.l.Line)]
		for i := range whole {
			whole[i] = api.Want{Task: 4444, N: 4444}
		}
		got.l.Line = nil
	}
	tasks := func(got *answer) {
		whole := got.tasks[:cap(got.tasks)]
		for i := range whole {
			whole[i] = 4444
		}
		got.tasks = nil
	}
	return []func(got *answer){line, tasks}
}

// without are copies of an answer of which each is without one list, in the order of the spoilers.
func without(got answer) []answer {
	list := []answer{got, got}
	list[0].l.Line, list[1].tasks = nil, nil
	return list
}

// ask is a call, with a name.
type ask struct {
	what string
	call func(l api.Lock) answer
}

func asks() []ask {
	enters := func(task int, write, try bool) func(l api.Lock) answer {
		return func(l api.Lock) answer {
			then, _, _ := lock.Enter(l, task, write, try)
			return answer{then, nil}
		}
	}
	leaves := func(write bool) func(l api.Lock) answer {
		return func(l api.Lock) answer {
			then, tasks, _, _ := lock.Leave(l, write)
			return answer{then, tasks}
		}
	}
	drops := func(task int) func(l api.Lock) answer {
		return func(l api.Lock) answer {
			then, tasks, _ := lock.Drop(l, task)
			return answer{then, tasks}
		}
	}
	return []ask{
		{"check", func(l api.Lock) answer { lock.Check(l); return answer{} }},
		{"enter, a reader", enters(9000, false, false)},
		{"enter, a writer", enters(9000, true, false)},
		{"enter, a reader, try", enters(9000, false, true)},
		{"enter, a writer, try", enters(9000, true, true)},
		{"enter wrongly", enters(1, false, false)},
		{"leave, a reader", leaves(false)},
		{"leave, the writer", leaves(true)},
		{"drop, the first", drops(1)},
		{"drop, one between", drops(2)},
		{"drop, the last", drops(3)},
		{"drop, nobody", drops(8000)},
	}
}

// Lists that are handed in are only read, what lies behind their length is neither read nor written,
// what is answered is new memory, and no two lists of one answer share any.
func TestMemoryIsApart(t *testing.T) {
	for _, l := range []api.Lock{
		free(),
		read(1),
		read(2),
		written(),
		read(1, writes(1)),
		read(1, writes(1), reads(2), reads(3)),
		read(2, writes(1), reads(2), writes(3)),
		read(1, writes(1), writes(2), writes(3)),
		written(reads(1)),
		written(reads(1), reads(2), reads(3)),
		written(writes(1), reads(2), writes(3)),
		written(reads(1), reads(2), writes(3)),
		written(many(1, most-1, false)...),
		read(much, writes(1), reads(2), reads(3)),
		written(reads(1), reads(1)), // of which Check says something
	} {
		short, whole := roomy(l)
		before := fmt.Sprint(whole)
		for _, a := range asks() {
			apart(t, a, short, l)
			same(t, a.what+": what was handed in", whole, before)
		}
	}
}

// apart spoils each list of an answer, and looks at what else has changed.
func apart(t *testing.T, a ask, short, l api.Lock) {
	t.Helper()
	want := fmt.Sprint(a.call(l))
	same(t, a.what+": with more behind", a.call(short), want)
	for i, spoil := range spoilers() {
		got := a.call(short)
		rest := fmt.Sprint(without(got)[i])
		spoil(&got)
		same(t, a.what+": the other lists", got, rest)
		same(t, a.what+": the next answer", a.call(short), want)
	}
}
