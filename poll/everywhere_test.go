package poll_test

import (
	"math"
	"math/rand"
	"slices"
	"testing"

	"taskmill/api"
	"taskmill/poll"
)

// rule is a fault, and whether it applies.
type rule struct {
	applies bool
	f       api.Fault
}

// firstOf is the first fault that applies.
func firstOf(rules ...rule) api.Fault {
	for _, r := range rules {
		if r.applies {
			return r.f
		}
	}
	return none
}

func outside(n, low, high int) bool { return n < low || n > high }

// descRules are a descriptor's faults as the document names them.
func descRules(d api.Desc) []rule {
	var rules []rule
	for way := range 2 {
		rules = append(rules,
			rule{d.Task[way] < 0 || outside(d.Until[way], 0, much), fault(api.ErrRange, way)},
			rule{d.Closed && (d.Ready[way] || d.Task[way] != 0 || d.Until[way] != 0), fault(api.ErrForm, way)},
			rule{d.Ready[way] && d.Task[way] != 0, fault(api.ErrForm, way)})
	}
	return append(rules, rule{d.Task[0] != 0 && d.Task[0] == d.Task[1], fault(api.ErrTwice, 1)})
}

func wayRule(way int) rule { return rule{way != 0 && way != 1, fault(api.ErrKind, -1)} }

func isLate(d api.Desc, way, now int) bool { return !(d.Until[way] == 0 || d.Until[way] > now) }

// oneTold is what a call answers that tells one number, and allTold what a call answers that tells tasks.
type oneTold struct {
	d api.Desc
	n int
	f api.Fault
}
type allTold struct {
	d     api.Desc
	tasks [3]int // so many, and who
	was   bool
	f     api.Fault
}

func numberOf(d api.Desc, n int, f api.Fault) oneTold { return oneTold{d, n, f} }
func listOf(d api.Desc, tasks []int, was bool, f api.Fault) allTold {
	l := allTold{d: d, was: was, f: f}
	l.tasks[0] = len(tasks)
	copy(l.tasks[1:], tasks)
	return l
}

func waitByTheWords(d api.Desc, way, n, now int) oneTold {
	if f := firstOf(append(descRules(d), wayRule(way))...); f != none {
		return oneTold{f: f}
	}
	f := firstOf(
		rule{n < 1 || outside(now, 0, much), fault(api.ErrRange, -1)},
		rule{d.Task[way] != 0, fault(api.ErrState, -1)},
		rule{slices.Contains(d.Task[:], n), fault(api.ErrTwice, -1)})
	if f != none {
		return oneTold{f: f}
	}
	tells := 0
	if d.Closed {
		tells = 3
	} else if isLate(d, way, now) {
		tells = 2
	} else if d.Ready[way] {
		tells, d.Ready[way] = 1, false
	} else {
		d.Task[way] = n
	}
	return oneTold{d: d, n: tells}
}

func fireByTheWords(d api.Desc, way int) oneTold {
	if f := firstOf(append(descRules(d), wayRule(way))...); f != none {
		return oneTold{f: f}
	}
	who := d.Task[way]
	if who != 0 {
		d.Task[way] = 0
	} else if !d.Closed {
		d.Ready[way] = true
	}
	return oneTold{d: d, n: who}
}

func untilByTheWords(d api.Desc, way, when, now int) oneTold {
	rules := append(descRules(d), wayRule(way),
		rule{outside(when, 0, much) || outside(now, 0, much), fault(api.ErrRange, -1)},
		rule{d.Closed, fault(api.ErrState, -1)})
	if f := firstOf(rules...); f != none {
		return oneTold{f: f}
	}
	d.Until[way] = when
	who := 0
	if when != 0 && when <= now {
		who, d.Task[way] = d.Task[way], 0
	}
	return oneTold{d: d, n: who}
}

func tickByTheWords(d api.Desc, now int) allTold {
	rules := append(descRules(d), rule{outside(now, 0, much), fault(api.ErrRange, -1)})
	if f := firstOf(rules...); f != none {
		return allTold{f: f}
	}
	var tasks []int
	for way, n := range d.Task {
		if n != 0 && isLate(d, way, now) {
			tasks = append(tasks, n)
			d.Task[way] = 0
		}
	}
	return listOf(d, tasks, false, none)
}

func closeByTheWords(d api.Desc) allTold {
	if f := firstOf(descRules(d)...); f != none {
		return allTold{f: f}
	}
	tasks := slices.DeleteFunc([]int{d.Task[0], d.Task[1]}, func(n int) bool { return n == 0 })
	return listOf(closed, tasks, d.Closed, none)
}

// smallDescs are all descriptors with small numbers, and with those at the edges.
func smallDescs() []api.Desc {
	var ways []api.Desc
	for _, isReady := range []bool{false, true} {
		for _, n := range []int{-1, 0, 1, 2} {
			for _, when := range []int{-1, 0, 1, 2, 3, much, much + 1} {
				d := desc(task(0, n), until(0, when))
				d.Ready[0] = isReady
				ways = append(ways, d)
			}
		}
	}
	var list []api.Desc
	for _, isClosed := range []bool{false, true} {
		for _, one := range ways {
			for _, other := range ways {
				d := mirrored(other)
				d.Closed, d.Ready[0], d.Task[0], d.Until[0] = isClosed, one.Ready[0], one.Task[0], one.Until[0]
				list = append(list, d)
			}
		}
	}
	return list
}

// agree tells where a call and the document's words answer otherwise; they are held against each other as values, as they are many.
func agree[E comparable](t *testing.T, what string, got, want E) {
	t.Helper()
	if got != want {
		t.Fatalf("%s: got %v, want %v", what, got, want)
	}
}

// P10.1 to P10.6, at all small descriptors, and numbers at the edges: what the document's words say.
func TestByTheWords(t *testing.T) {
	codes := map[int]int{}
	times := []int{-1, 0, 1, 2, 3, much, much + 1}
	for _, d := range smallDescs() {
		agree(t, "check", poll.Check(d), firstOf(descRules(d)...))
		codes[poll.Check(d).Code]++
		agree(t, "close", listOf(poll.Close(d)), closeByTheWords(d))
		for _, now := range times {
			then, tasks, f := poll.Tick(d, now)
			agree(t, "tick", listOf(then, tasks, false, f), tickByTheWords(d, now))
		}
		for way := -1; way <= 2; way++ {
			agree(t, "fire", numberOf(poll.Fire(d, way)), fireByTheWords(d, way))
			for _, now := range times {
				for n := -1; n <= 3; n++ {
					got := numberOf(poll.Wait(d, way, n, now))
					agree(t, "wait", got, waitByTheWords(d, way, n, now))
					codes[got.f.Code]++
				}
				for _, when := range times {
					got := numberOf(poll.Until(d, way, when, now))
					agree(t, "until", got, untilByTheWords(d, way, when, now))
					codes[got.f.Code]++
				}
			}
		}
	}
	for _, code := range []int{api.OK, api.ErrRange, api.ErrKind, api.ErrForm, api.ErrTwice, api.ErrState} {
		if codes[code] < 100 {
			t.Errorf("not all kinds were asked: %v", codes)
		}
	}
}

// wildNumber is mostly a small one, at times one of the farthest.
func wildNumber(r *rand.Rand) int {
	far := []int{math.MinInt, math.MaxInt, -1, -2, much - 1, much, much + 1, -much, 1 << 32, 1<<32 + 1}
	if r.Intn(16) == 0 {
		return far[r.Intn(len(far))]
	}
	return r.Intn(6)
}

func wildDesc(r *rand.Rand) api.Desc {
	d := api.Desc{Closed: r.Intn(8) == 0}
	if d.Closed && r.Intn(2) == 0 {
		return d
	}
	for way := range 2 {
		switch r.Intn(3) {
		case 0:
			d.Ready[way] = true
		case 1:
			d.Task[way] = wildNumber(r)
		}
		d.Until[way] = wildNumber(r)
	}
	return d
}

// P1: no call panics whatever it is given, each answers the same again, and with a fault there is nothing else.
func TestWildInputs(t *testing.T) {
	r := rand.New(rand.NewSource(5))
	right := map[string]int{}
	numbers := func(what string, call func() oneTold, want oneTold) {
		got := call()
		agree(t, what, got, want)
		agree(t, what+", again", call(), got)
		if got.f == none {
			right[what]++
		} else {
			agree(t, what+": beside the fault", got, oneTold{f: got.f})
		}
	}
	lists := func(what string, call func() allTold, want allTold) {
		got := call()
		agree(t, what, got, want)
		agree(t, what+", again", call(), got)
		if got.f == none {
			right[what]++
		} else {
			agree(t, what+": beside the fault", got, allTold{f: got.f})
		}
	}
	const times = 50000
	for range times {
		d, way, n, when, now := wildDesc(r), r.Intn(2), wildNumber(r), wildNumber(r), wildNumber(r)
		if r.Intn(8) == 0 {
			way = wildNumber(r)
		}
		agree(t, "check", poll.Check(d), firstOf(descRules(d)...))
		numbers("wait", func() oneTold { return numberOf(poll.Wait(d, way, n, now)) }, waitByTheWords(d, way, n, now))
		numbers("fire", func() oneTold { return numberOf(poll.Fire(d, way)) }, fireByTheWords(d, way))
		numbers("until", func() oneTold { return numberOf(poll.Until(d, way, when, now)) }, untilByTheWords(d, way, when, now))
		lists("tick", func() allTold {
			then, tasks, f := poll.Tick(d, now)
			return listOf(then, tasks, false, f)
		}, tickByTheWords(d, now))
		lists("close", func() allTold { return listOf(poll.Close(d)) }, closeByTheWords(d))
	}
	for _, what := range []string{"wait", "fire", "until", "tick", "close"} {
		if n := right[what]; n < times/10 || n > times-times/20 {
			t.Errorf("%s: %d were right", what, n)
		}
	}
}
