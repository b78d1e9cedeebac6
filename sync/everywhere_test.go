package sync_test

import (
	"math"
	"math/rand"
	"slices"
	"testing"

	"taskmill/api"
	"taskmill/sync"
)

// rule is a fault, and whether it applies.
type rule struct {
	applies bool
	f       api.Fault
}

// firstOf is the first fault that applies.
func firstOf(rules ...rule) api.Fault {
	for _, r := range rules {
		if r.applies {
			return r.f
		}
	}
	return none
}

// lineRules are a line's faults as the document names them.
func lineRules(line []int) []rule {
	rules := []rule{{len(line) > most, fault(api.ErrMany, 0)}}
	for i, task := range line {
		twice := slices.Contains(line[:i], task)
		rules = append(rules, rule{task < 1, fault(api.ErrRange, i+1)}, rule{twice, fault(api.ErrTwice, i+1)})
	}
	return rules
}

// comeRules are the faults of a task that comes to a line.
func comeRules(line []int, task int) []rule {
	return []rule{
		{task < 1, fault(api.ErrRange, -1)},
		{slices.Contains(line, task), fault(api.ErrTwice, -1)},
		{len(line) >= most, fault(api.ErrMuch, 0)},
	}
}

// smallLines are all lines of up to three tasks from 0 to 3.
func smallLines() [][]int {
	list, ahead := [][]int{nil}, [][]int{nil}
	for range 3 {
		var longer [][]int
		for _, line := range ahead {
			for task := range 4 {
				longer = append(longer, plus(line, task))
			}
		}
		list, ahead = append(list, longer...), longer
	}
	return list
}

// P8.1 and P8.2, at all small groups: what the document's words say.
func TestGroupByTheWords(t *testing.T) {
	for _, line := range smallLines() {
		for count := -1; count <= 3; count++ {
			g := group(count, line...)
			rules := append(lineRules(line),
				rule{count < 0 || count > much, fault(api.ErrRange, 0)},
				rule{count == 0 && len(line) > 0, fault(api.ErrForm, 0)})
			for n := -4; n <= 4; n++ {
				want := told(group(count+n, line...), []int{}, false, none)
				switch f := firstOf(rules...); {
				case f != none:
					want = told(group(0), []int{}, false, f)
				case count+n < 0:
					want = told(g, []int{}, true, none)
				case count+n == 0:
					want = told(group(0), line, false, none)
				}
				then, tasks, panics, f := sync.Add(g, n)
				same(t, "add", told(then, tasks, panics, f), want)
			}
			for task := range 5 {
				want := told(group(count, plus(line, task)...), false, none)
				switch f := firstOf(append(rules, comeRules(line, task)...)...); {
				case f != none:
					want = told(group(0), false, f)
				case count == 0:
					want = told(g, true, none)
				}
				then, free, f := sync.Await(g, task)
				same(t, "await", told(then, free, f), want)
			}
		}
	}
}

// P8.3 and P8.4, at all small onces: what the document's words say.
func TestOnceByTheWords(t *testing.T) {
	for _, line := range smallLines() {
		for by := -1; by <= 4; by++ {
			for _, o := range []api.Once{once(by, line...), done(by, line...)} {
				wrong := o.Done && by != 0 || by == 0 && len(line) > 0 || slices.Contains(line, by)
				rules := append(lineRules(line), rule{by < 0, fault(api.ErrRange, 0)}, rule{wrong, fault(api.ErrForm, 0)})
				for task := range 6 {
					beginByTheWords(t, o, task, rules)
					endByTheWords(t, o, task, rules)
				}
			}
		}
	}
}

func beginByTheWords(t *testing.T, o api.Once, task int, rules []rule) {
	t.Helper()
	rules = append(plus(rules, comeRules(o.Line, task)...), rule{task == o.By, fault(api.ErrState, -1)})
	want := told(once(o.By, plus(o.Line, task)...), 0, none)
	switch f := firstOf(rules...); {
	case f != none:
		want = told(once(0), 0, f)
	case o.Done:
		want = told(o, 2, none)
	case o.By == 0:
		want = told(once(task), 1, none)
	}
	then, k, f := sync.Begin(o, task)
	same(t, "begin", told(then, k, f), want)
}

func endByTheWords(t *testing.T, o api.Once, task int, rules []rule) {
	t.Helper()
	want := told(done(0), o.Line, none)
	if f := firstOf(plus(rules, rule{task != o.By || task < 1, fault(api.ErrState, -1)})...); f != none {
		want = told(once(0), []int{}, f)
	}
	then, tasks, f := sync.End(o, task)
	same(t, "end", told(then, tasks, f), want)
}

// P8.7, at all small gates: what the document's words say.
func TestGateByTheWords(t *testing.T) {
	for _, line := range smallLines() {
		for need := -1; need <= 5; need++ {
			for task := range 6 {
				rules := append(lineRules(line),
					rule{need < 1 || need > most, fault(api.ErrRange, 0)},
					rule{len(line) >= need, fault(api.ErrForm, 0)})
				want := told(gate(need, plus(line, task)...), []int{}, none)
				switch f := firstOf(append(rules, comeRules(line, task)...)...); {
				case f != none:
					want = told(gate(0), []int{}, f)
				case len(line)+1 == need:
					want = told(gate(need), plus(line, task), none)
				}
				then, tasks, f := sync.Arrive(gate(need, line...), task)
				same(t, "arrive", told(then, tasks, f), want)
			}
		}
	}
}

// semaRules are a semaphore's faults as the document names them.
func semaRules(s api.Sema) []rule {
	rules := []rule{
		{len(s.Line) > most, fault(api.ErrMany, 0)},
		{s.Free < 0 || s.Free > much, fault(api.ErrRange, 0)},
		{len(s.Line) > 0 && s.Line[0].N <= s.Free, fault(api.ErrForm, 0)},
	}
	for i, one := range s.Line {
		twice := slices.Contains(tasksOf(s.Line[:i]), one.Task)
		rules = append(rules,
			rule{one.Task < 1 || one.N < 1 || one.N > much, fault(api.ErrRange, i+1)},
			rule{twice, fault(api.ErrTwice, i+1)},
			rule{one.Write, fault(api.ErrForm, i+1)})
	}
	return rules
}

func tasksOf(line []api.Want) []int {
	var tasks []int
	for _, one := range line {
		tasks = append(tasks, one.Task)
	}
	return tasks
}

// settled is the semaphore when those have got theirs who can: as many of the first as want no more in sum than is free.
func settled(s api.Sema) (api.Sema, []int) {
	many, sum := 0, 0
	for many < len(s.Line) && sum+s.Line[many].N <= s.Free {
		sum += s.Line[many].N
		many++
	}
	return sema(s.Free-sum, s.Line[many:]...), tasksOf(s.Line[:many])
}

// smallSemas are semaphores of small numbers, the right ones and those with faults.
func smallSemas() []api.Sema {
	var list []api.Sema
	r := rand.New(rand.NewSource(8))
	for range 20000 {
		s := sema(r.Intn(6) - r.Intn(2))
		for i := range r.Intn(5) {
			one := wants(i+1+r.Intn(2)*r.Intn(2)*r.Intn(3), 1+s.Free*(1-min(i, 1))+r.Intn(3))
			switch r.Intn(24) {
			case 0:
				one.Task = -r.Intn(2)
			case 1:
				one.N = r.Intn(3) - 1
			case 2:
				one.Write = true
			}
			s.Line = append(s.Line, one)
		}
		list = append(list, s)
	}
	return list
}

// P8.5 and P8.6, at many small semaphores: what the document's words say.
func TestSemaByTheWords(t *testing.T) {
	codes := map[int]int{}
	for i, s := range smallSemas() {
		rules := semaRules(s)
		codes[firstOf(rules...).Code]++
		acquireByTheWords(t, s, 1+i%6, 1+i%4, i%2 == 0, rules)
		acquireByTheWords(t, s, i%7, i%3, i%2 == 0, rules)
		releaseByTheWords(t, s, i%9-1, rules)
	}
	for _, code := range []int{api.OK, api.ErrRange, api.ErrForm, api.ErrTwice} {
		if codes[code] < 500 {
			t.Errorf("not all kinds were asked: %v", codes)
		}
	}
}

func acquireByTheWords(t *testing.T, s api.Sema, task, n int, try bool, rules []rule) {
	t.Helper()
	rules = plus(rules, rule{n < 1 || n > much, fault(api.ErrRange, -1)})
	rules = append(rules, comeRules(tasksOf(s.Line), task)...)
	want := told(sema(0), false, firstOf(rules...))
	if firstOf(rules...) == none {
		then, tasks := settled(sema(s.Free, plus(s.Line, wants(task, n))...))
		got := slices.Contains(tasks, task)
		if try && !got {
			then = s
		}
		want = told(then, got, none)
	}
	then, got, f := sync.Acquire(s, task, n, try)
	same(t, "acquire", told(then, got, f), want)
}

func releaseByTheWords(t *testing.T, s api.Sema, n int, rules []rule) {
	t.Helper()
	rules = plus(rules, rule{n < 0, fault(api.ErrRange, -1)})
	want := told(sema(0), []int{}, firstOf(rules...))
	if firstOf(rules...) == none {
		then, tasks := settled(sema(s.Free+n, s.Line...))
		want = told(then, tasks, none)
	}
	then, tasks, f := sync.Release(s, n)
	same(t, "release", told(then, tasks, f), want)
}

// wildNumber is mostly a small one, at times one of the farthest.
func wildNumber(r *rand.Rand) int {
	far := []int{math.MinInt, math.MaxInt, -1, 0, much, much + 1, -much, -much - 1, most, most + 1, 1 << 32}
	if r.Intn(8) == 0 {
		return far[r.Intn(len(far))]
	}
	return r.Intn(9)
}

func wildLine(r *rand.Rand) []int {
	var line []int
	for range r.Intn(4) {
		line = append(line, wildNumber(r)+r.Intn(4)*10)
	}
	return line
}

func wildSema(r *rand.Rand) api.Sema {
	s := sema(wildNumber(r))
	for range r.Intn(4) {
		s.Line = append(s.Line, api.Want{Task: wildNumber(r), Write: r.Intn(9) == 0, N: wildNumber(r) + r.Intn(9)})
	}
	return s
}

// P1: no call panics whatever it is given, each answers the same again, and with a fault there is nothing else.
func TestWildInputs(t *testing.T) {
	r := rand.New(rand.NewSource(5))
	right := map[string]int{}
	for range 30000 {
		line, s := wildLine(r), wildSema(r)
		a, b, yes := wildNumber(r), wildNumber(r), r.Intn(2) == 0
		again := tellAll(line, s, a, b, yes)
		for i, one := range tellAll(line, s, a, b, yes) {
			same(t, one.what+", again", one, again[i])
			if one.f == none {
				right[one.what]++
			} else {
				same(t, one.what+": beside the fault", one.rest, one.zero)
			}
		}
	}
	for _, what := range []string{"add", "await", "begin", "end", "acquire", "release", "arrive"} {
		if n := right[what]; n < 100 || n > 29000 {
			t.Errorf("%s: %d were right", what, n)
		}
	}
}

// saying is what a call answers beside its fault, as it is told, and what that is with a fault.
type saying struct {
	what, rest, zero string
	f                api.Fault
}

func tellAll(line []int, s api.Sema, a, b int, yes bool) []saying {
	o := api.Once{By: a, Done: yes, Line: line}
	added, went, panics, addF := sync.Add(group(a, line...), b)
	awaited, free, awaitF := sync.Await(group(a, line...), b)
	begun, k, beginF := sync.Begin(o, b)
	ended, left, endF := sync.End(o, b)
	acquired, got, acquireF := sync.Acquire(s, a, b, yes)
	released, gave, releaseF := sync.Release(s, b)
	arrived, through, arriveF := sync.Arrive(gate(a, line...), b)
	return []saying{
		{"add", told(added, went, panics), told(group(0), []int{}, false), addF},
		{"await", told(awaited, free), told(group(0), false), awaitF},
		{"begin", told(begun, k), told(once(0), 0), beginF},
		{"end", told(ended, left), told(once(0), []int{}), endF},
		{"acquire", told(acquired, got), told(sema(0), false), acquireF},
		{"release", told(released, gave), told(sema(0), []int{}), releaseF},
		{"arrive", told(arrived, through), told(gate(0), []int{}), arriveF},
	}
}
