package lock_test

import (
	"fmt"
	"math"
	"math/rand"
	"slices"
	"testing"

	"taskmill/api"
	"taskmill/lock"
)

// letIn is how many of Line are admitted: behind a writer none, a first writer alone where there are no readers,
// else all readers up to the first writer.
func letIn(l api.Lock) int {
	first := slices.IndexFunc(l.Line, func(one api.Want) bool { return one.Write })
	switch {
	case l.Writer || len(l.Line) == 0:
		return 0
	case first == 0 && l.Readers > 0:
		return 0
	case first == 0:
		return 1
	case first < 0:
		return len(l.Line)
	}
	return first
}

// settled is the lock with those in it who are admitted, and these.
func settled(l api.Lock) (api.Lock, []int) {
	var tasks []int
	in := l.Line[:letIn(l)]
	for _, one := range in {
		tasks = append(tasks, one.Task)
	}
	if len(in) > 0 && in[0].Write {
		l.Writer = true
	} else {
		l.Readers += len(in)
	}
	l.Line = l.Line[len(in):]
	return l, tasks
}

// smallLocks are all locks of up to two readers, and up to five who wait, the right ones and those of a wrong form.
func smallLocks() []api.Lock {
	var list []api.Lock
	tasks := []int{5, 2, 9, 1, 4}
	for readers := range 3 {
		for n := range 6 {
			for bits := range 1 << n {
				var line []api.Want
				for i := range n {
					line = append(line, api.Want{Task: tasks[i], Write: bits>>i&1 == 1})
				}
				list = append(list, read(readers, line...), both(readers, line...))
			}
		}
	}
	return list
}

// P7.1 to P7.4, at all small locks: what the document's words say.
func TestByTheWords(t *testing.T) {
	right := 0
	for _, l := range smallLocks() {
		want := none
		if l.Writer && l.Readers > 0 || letIn(l) > 0 {
			want = fault(api.ErrForm, 0)
		}
		same(t, "check", lock.Check(l), want)
		if want != none {
			continue
		}
		right++
		for _, yes := range []bool{false, true} {
			enterByTheWords(t, l, yes)
			leaveByTheWords(t, l, yes)
		}
		for task := range 11 {
			dropByTheWords(t, l, task)
		}
	}
	if right < 100 {
		t.Errorf("only %d locks were asked", right)
	}
}

func enterByTheWords(t *testing.T, l api.Lock, write bool) {
	t.Helper()
	all := l
	all.Line = slices.Concat(l.Line, []api.Want{{Task: 7, Write: write}})
	want, tasks := settled(all)
	holds := len(tasks) == 1
	then, in, f := lock.Enter(l, 7, write, false)
	same(t, "enter", fmt.Sprint(then, in, f, lock.Check(then)), fmt.Sprint(want, holds, none, none))
	if !holds {
		want = l
	}
	then, in, f = lock.Enter(l, 7, write, true)
	same(t, "enter, try", fmt.Sprint(then, in, f), fmt.Sprint(want, holds, none))
}

func leaveByTheWords(t *testing.T, l api.Lock, write bool) {
	t.Helper()
	then, tasks, panics, f := lock.Leave(l, write)
	if write && !l.Writer || !write && l.Readers == 0 {
		same(t, "leave", fmt.Sprint(then, tasks, panics, f), fmt.Sprint(l, []int{}, true, none))
		return
	}
	left := read(max(0, l.Readers-1), l.Line...)
	want, in := settled(left)
	same(t, "leave", fmt.Sprint(then, tasks, panics, f, lock.Check(then)), fmt.Sprint(want, in, false, none, none))
}

func dropByTheWords(t *testing.T, l api.Lock, task int) {
	t.Helper()
	left := l
	left.Line = slices.DeleteFunc(slices.Clone(l.Line), func(one api.Want) bool { return one.Task == task })
	then, tasks, f := lock.Drop(l, task)
	if len(left.Line) == len(l.Line) {
		same(t, "drop", fmt.Sprint(then, tasks, f), fmt.Sprint(api.Lock{}, []int{}, fault(api.ErrNone, 0)))
		return
	}
	want, in := settled(left)
	same(t, "drop", fmt.Sprint(then, tasks, f, lock.Check(then)), fmt.Sprint(want, in, none, none))
}

// run is a lock with tasks that come to it in the order of their numbers; holds are those who hold it: is it as writers?
type run struct {
	l     api.Lock
	wants map[int]bool // those who wait: to write?
	holds map[int]bool
}

// admit has tasks hold the lock, of which none may be later than one who waits.
func (w *run) admit(t *testing.T, tasks []int) {
	t.Helper()
	for _, task := range tasks {
		for other := range w.wants {
			if other < task {
				t.Fatalf("%d holds the lock ahead of %d", task, other)
			}
		}
		w.holds[task] = w.wants[task]
		delete(w.wants, task)
	}
}

func (w *run) enter(t *testing.T, task int, write, try bool) {
	t.Helper()
	then, in, _ := lock.Enter(w.l, task, write, try)
	w.l = then
	if in || !try {
		w.wants[task] = write
	}
	if in {
		w.admit(t, []int{task})
	}
}

func (w *run) leave(t *testing.T, r *rand.Rand) {
	t.Helper()
	if task := anyOf(r, w.holds); task > 0 {
		then, tasks, panics, _ := lock.Leave(w.l, w.holds[task])
		same(t, "who holds can leave", panics, false)
		delete(w.holds, task)
		w.l = then
		w.admit(t, tasks)
	}
}

func (w *run) drop(t *testing.T, r *rand.Rand) {
	t.Helper()
	if task := anyOf(r, w.wants); task > 0 {
		then, tasks, f := lock.Drop(w.l, task)
		same(t, "who waits can be dropped", f, none)
		delete(w.wants, task)
		w.l = then
		w.admit(t, tasks)
	}
}

// anyOf is one of the tasks, or 0, if there are none.
func anyOf(r *rand.Rand, tasks map[int]bool) int {
	var list []int
	for task := range tasks {
		list = append(list, task)
	}
	if len(list) == 0 {
		return 0
	}
	slices.Sort(list)
	return list[r.Intn(len(list))]
}

// alone asks that the lock tells who holds it and who waits, and that a writer is alone.
func (w *run) alone(t *testing.T) {
	t.Helper()
	writers := 0
	for _, write := range w.holds {
		if write {
			writers++
		}
	}
	if writers > 0 && len(w.holds) > 1 {
		t.Fatalf("a writer is not alone: %v", w.holds)
	}
	same(t, "readers and a writer", fmt.Sprint(w.l.Readers, w.l.Writer), fmt.Sprint(len(w.holds)-writers, writers > 0))
	same(t, "who waits", len(w.l.Line), len(w.wants))
	same(t, "the lock then", lock.Check(w.l), none)
}

// What follows: a writer is alone, and who came later never holds the lock ahead of one who waits.
func TestWriterAloneAndInOrder(t *testing.T) {
	for seed := range 6 {
		r := rand.New(rand.NewSource(int64(seed)))
		w := run{wants: map[int]bool{}, holds: map[int]bool{}}
		for task := 1; task <= 4000; task++ {
			switch k := r.Intn(12); {
			case k == 0:
				w.drop(t, r)
			case k < 6 && len(w.wants) < 30:
				w.enter(t, task, r.Intn(2+seed) == 0, r.Intn(5) == 0)
			default:
				w.leave(t, r)
			}
			w.alone(t)
		}
	}
}

// What follows: with writers alone it is a mutex that is handed on: from one to the next, in the order in which they came.
func TestMutexIsHandedOn(t *testing.T) {
	var l api.Lock
	for task := 1; task <= 300; task++ {
		then, in, f := lock.Enter(l, task, true, false)
		same(t, "enter", fmt.Sprint(in, f), fmt.Sprint(task == 1, none))
		l = then
	}
	for task := 1; task < 300; task++ {
		then, tasks, panics, f := lock.Leave(l, true)
		same(t, "handed on", fmt.Sprint(then, tasks, panics, f), fmt.Sprint(written(many(task+2, 299-task, true)...), []int{task + 1}, false, none))
		l = then
		_, in, _ := lock.Enter(l, 1000, true, true)
		same(t, "nobody takes it between", in, false)
	}
	l, tasks, panics, f := lock.Leave(l, true)
	same(t, "the last leaves", fmt.Sprint(l, tasks, panics, f), fmt.Sprint(free(), []int{}, false, none))
}

// wildNumber is mostly a small one, at times one of the farthest.
func wildNumber(r *rand.Rand) int {
	far := []int{math.MinInt, math.MaxInt, -1, 0, much, much + 1, 1 << 32}
	if r.Intn(20) == 0 {
		return far[r.Intn(len(far))]
	}
	return r.Intn(9)
}

func wildLock(r *rand.Rand) api.Lock {
	l := api.Lock{Readers: wildNumber(r) / 4, Writer: r.Intn(2) == 0}
	if l.Writer && r.Intn(4) > 0 {
		l.Readers = 0
	}
	for range r.Intn(5) {
		one := api.Want{Task: 1 + r.Intn(20), Write: r.Intn(2) == 0}
		switch r.Intn(20) {
		case 0:
			one.Task = wildNumber(r)
		case 1:
			one.N = wildNumber(r)
		}
		l.Line = append(l.Line, one)
	}
	return l
}

// P1: no call panics whatever it is given, each answers the same again, and with a fault there is nothing else.
func TestWildInputs(t *testing.T) {
	r := rand.New(rand.NewSource(4))
	faults := map[int]int{}
	for range 30000 {
		l, task, write, try := wildLock(r), wildNumber(r), r.Intn(2) == 0, r.Intn(2) == 0
		same(t, "again", tellAll(t, l, task, write, try), tellAll(t, l, task, write, try))
		faults[lock.Check(l).Code]++
	}
	for _, code := range []int{api.OK, api.ErrRange, api.ErrForm, api.ErrTwice} {
		if faults[code] < 100 {
			t.Errorf("not all kinds were asked: %v", faults)
		}
	}
}

func tellAll(t *testing.T, l api.Lock, task int, write, try bool) string {
	t.Helper()
	wrong := lock.Check(l)
	ask := func(what string, then api.Lock, tasks []int, told bool, f api.Fault) string {
		t.Helper()
		if f != none {
			bare(t, what, then, tasks, told)
		} else if then.Readers <= much {
			same(t, what+": the lock then", lock.Check(then), none)
		}
		if wrong != none {
			same(t, what+": what Check says", f, wrong)
		}
		return fmt.Sprintln(f, then, tasks, told)
	}
	then, in, f := lock.Enter(l, task, write, try)
	text := ask("enter", then, nil, in, f)
	then, tasks, panics, f := lock.Leave(l, write)
	text += ask("leave", then, tasks, panics, f)
	then, tasks, f = lock.Drop(l, task)
	return text + ask("drop", then, tasks, false, f)
}
