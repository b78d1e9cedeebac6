package sync_test

import (
	"maps"
	"math/rand"
	"slices"
	"testing"

	"taskmill/api"
	"taskmill/sync"
)

// What follows: a once is begun once; who comes ahead of its end waits, whoever comes later finds it done.
func TestBegunOnce(t *testing.T) {
	for seed := range 200 {
		r := rand.New(rand.NewSource(int64(seed)))
		var o api.Once
		var line []int
		begun, ended := 0, false
		for task := 1; task <= 60; task++ {
			if begun > 0 && !ended && r.Intn(20) == 0 {
				then, tasks, f := sync.End(o, begun)
				same(t, "end", told(then, tasks, f), told(done(0), line, none))
				o, ended = then, true
			}
			then, k, f := sync.Begin(o, task)
			same(t, "begin", told(k, f), told(wantedOf(begun, ended), none))
			switch k {
			case 1:
				begun = task
			case 0:
				line = append(line, task)
			}
			o = then
		}
		same(t, "who began", begun, 1)
	}
}

// wantedOf is what Begin is to tell, by who has begun, and whether it has ended.
func wantedOf(begun int, ended bool) int {
	switch {
	case ended:
		return 2
	case begun == 0:
		return 1
	}
	return 0
}

// share is a semaphore, with what tasks got of it and what those want who wait; they come in the order of their numbers.
type share struct {
	s        api.Sema
	held     map[int]int
	wants    map[int]int
	released int // with what was free at first
	acquired int
}

// get has tasks get what they want, of whom none may be later than one who waits.
func (w *share) get(t *testing.T, tasks ...int) {
	t.Helper()
	for _, task := range tasks {
		for other := range w.wants {
			if other < task {
				t.Fatalf("%d gets ahead of %d", task, other)
			}
		}
		w.held[task] = w.wants[task]
		w.acquired += w.wants[task]
		delete(w.wants, task)
	}
}

func (w *share) acquire(t *testing.T, task, n int, try bool) {
	t.Helper()
	then, got, f := sync.Acquire(w.s, task, n, try)
	same(t, "acquire", f, none)
	w.s = then
	if got || !try {
		w.wants[task] = n
	}
	if got {
		w.get(t, task)
	}
}

func (w *share) release(t *testing.T, r *rand.Rand) {
	t.Helper()
	n := 0
	for _, task := range slices.Sorted(maps.Keys(w.held)) {
		if r.Intn(2) == 0 {
			n += w.held[task]
			delete(w.held, task)
		}
	}
	then, tasks, f := sync.Release(w.s, n)
	same(t, "release", f, none)
	w.s = then
	w.released += n
	w.get(t, tasks...)
}

// fair asks that the sums are right, and that nobody waits who need not.
func (w *share) fair(t *testing.T) {
	t.Helper()
	same(t, "free and acquired", w.s.Free+w.acquired, w.released)
	same(t, "who waits", tasksOf(w.s.Line), slices.Sorted(maps.Keys(w.wants)))
	for _, one := range w.s.Line {
		same(t, "what it wants", one, wants(one.Task, w.wants[one.Task]))
	}
	if len(w.s.Line) > 0 && w.s.Line[0].N <= w.s.Free {
		t.Fatalf("the first need not wait: %v", w.s)
	}
}

// What follows: nobody waits who need not; what is Free and what was acquired is what was released, in sum;
// nobody gets ahead of who came first.
func TestSharedFairly(t *testing.T) {
	for seed := range 8 {
		r := rand.New(rand.NewSource(int64(seed)))
		w := share{s: sema(7 + seed), held: map[int]int{}, wants: map[int]int{}, released: 7 + seed}
		for task := 1; task <= 3000; task++ {
			if r.Intn(3) > 0 && len(w.wants) < 20 {
				w.acquire(t, task, 1+r.Intn(7+seed), r.Intn(4) == 0)
			} else {
				w.release(t, r)
			}
			w.fair(t)
		}
	}
}

// What follows: nobody waits for a group who need not, and those who wait go together, in the order in which they came.
func TestGroupWaitsNoLonger(t *testing.T) {
	r := rand.New(rand.NewSource(9))
	var g api.Group
	var line []int
	for task := 1; task <= 5000; task++ {
		if count := g.Count; r.Intn(2) == 0 {
			then, free, f := sync.Await(g, task)
			same(t, "await", told(free, f), told(count == 0, none))
			if !free {
				line = append(line, task)
			}
			g = then
		} else {
			n := r.Intn(6) - 3
			then, tasks, panics, f := sync.Add(g, n)
			same(t, "add", told(panics, f), told(count+n < 0, none))
			if count+n == 0 {
				same(t, "all go", tasks, line)
				line = nil
			}
			g = then
		}
		same(t, "who waits", g.Line, line)
		if g.Count == 0 && len(g.Line) > 0 {
			t.Fatalf("they need not wait: %v", g)
		}
	}
}

// What follows: nobody waits at a gate who need not, and those who wait go together, in the order in which they came.
func TestGateWaitsNoLonger(t *testing.T) {
	for need := 1; need <= 9; need++ {
		g := gate(need)
		var line []int
		for task := 1; task <= 100; task++ {
			line = append(line, task)
			then, tasks, f := sync.Arrive(g, task)
			if len(line) == need {
				same(t, "all go", told(then, tasks, f), told(gate(need), line, none))
				line = nil
			} else {
				same(t, "they wait", told(then, tasks, f), told(gate(need, line...), []int{}, none))
			}
			g = then
		}
	}
}
