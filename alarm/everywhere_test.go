package alarm_test

import (
	"fmt"
	"math/rand"
	"slices"
	"testing"

	"taskmill/alarm"
	"taskmill/api"
)

// sizes are those around which a heap gets one more place that has some below, or one more level.
var sizes = []int{0, 1, 2, 3, 4, 5, 6, 7, 9, 10, 20, 21, 22, 25, 26, 40, 85, 86, 90}

// P3.2 and P3.3, at all places of many heaps: what the document's words say, step by step.
func TestAddAndDropByTheWords(t *testing.T) {
	r := rand.New(rand.NewSource(1))
	roseFar, sankFar := 0, 0
	for round := range 6 {
		for _, n := range sizes {
			h := anyHeap(r, n, 1+2*round)
			timer := api.Timer{When: r.Intn(6), Task: 1000}
			want, place := risen(append(slices.Clone(h), timer), n)
			then, at, f := alarm.Add(h, timer)
			same(t, "add", fmt.Sprint(then, at, f, alarm.Check(then)), fmt.Sprint(want, place, none, none))
			for i := range h {
				want, rose, sank := dropped(h, i)
				then, gone, f := alarm.Drop(h, i)
				same(t, "drop", fmt.Sprint(then, gone, f, alarm.Check(then)), fmt.Sprint(want, h[i], none, none))
				roseFar, sankFar = max(roseFar, rose), max(sankFar, sank)
			}
		}
	}
	if roseFar == 0 || sankFar < 20 {
		t.Errorf("stead-ins rose %d places and sank %d", roseFar, sankFar)
	}
}

// P3.4 by P3.3: what is due is dropped from the first place, as long as there is some.
func TestDueIsDrop(t *testing.T) {
	r := rand.New(rand.NewSource(2))
	for round := range 20 {
		for _, n := range sizes {
			h := anyHeap(r, n, 1+round%7)
			now := r.Intn(8)
			left, gone := h, []api.Timer(nil)
			for len(left) > 0 && left[0].When <= now {
				gone = append(gone, left[0])
				left, _, _ = alarm.Drop(left, 0)
			}
			then, due, f := alarm.Due(h, now)
			same(t, "due", fmt.Sprint(then, due, f), fmt.Sprint(left, gone, none))
		}
	}
}

// P3.5, for many lists: what the document's words say, step by step.
func TestMadeByTheWords(t *testing.T) {
	r := rand.New(rand.NewSource(3))
	for round := range 10 {
		for _, n := range sizes {
			l := anyList(r, n, 1+6*round)
			want := l
			for i := n - 1; i >= 0; i-- {
				if len(below(l, i)) > 0 {
					want, _ = sunk(want, i)
				}
			}
			made, f := alarm.Made(l)
			same(t, "made", fmt.Sprint(made, f, alarm.Check(made)), fmt.Sprint(want, none, none))
		}
	}
}

// What follows: what is Due comes out in the order of When; no timer is told before its time, and none that is due is left.
func TestDueInOrder(t *testing.T) {
	r := rand.New(rand.NewSource(4))
	for range 300 {
		l := anyList(r, r.Intn(200), 1+r.Intn(60))
		h, _ := alarm.Made(l)
		now := r.Intn(60)
		left, due, f := alarm.Due(h, now)
		same(t, "fault", fmt.Sprint(f, alarm.Check(left)), fmt.Sprint(none, none))
		same(t, "none is lost, none comes twice", sorted(left, due), sorted(l))
		for i, timer := range due {
			if timer.When > now || i > 0 && timer.When < due[i-1].When {
				t.Fatalf("now %d, due %v", now, due)
			}
		}
		for _, timer := range left {
			if timer.When <= now {
				t.Fatalf("now %d, left %v", now, left)
			}
		}
	}
}

// What follows, along a run of calls: timers come and go, and time goes on.
func TestDueAlongARun(t *testing.T) {
	r := rand.New(rand.NewSource(5))
	var h, all, told []api.Timer
	tasks := 0
	for now := range 400 {
		for range r.Intn(5) {
			tasks++
			timer := api.Timer{When: now + r.Intn(40), Task: tasks}
			var place int
			h, place, _ = alarm.Add(h, timer)
			same(t, "its place", h[place], timer)
			all = append(all, timer)
		}
		if len(h) > 0 && r.Intn(4) == 0 {
			var gone api.Timer
			h, gone, _ = alarm.Drop(h, r.Intn(len(h)))
			all = slices.DeleteFunc(all, func(timer api.Timer) bool { return timer == gone })
		}
		var due []api.Timer
		h, due, _ = alarm.Due(h, now)
		for _, timer := range due { // each was asked for at every moment, so it is told at its own
			same(t, "told at", now, timer.When)
		}
		told = append(told, due...)
	}
	_, rest, _ := alarm.Due(h, 1000)
	same(t, "all are told", sorted(told, rest), sorted(all))
}

// P1: no call panics whatever it is given, each answers the same again, and with a fault there is nothing else.
func TestWildInputs(t *testing.T) {
	r := rand.New(rand.NewSource(6))
	faults := map[int]int{}
	for range 20000 {
		h := make([]api.Timer, r.Intn(8))
		for i := range h {
			h[i] = wildTimer(r)
		}
		if r.Intn(2) == 0 {
			h = sorted(h)
		}
		timer, i, now := wildTimer(r), wildNumber(r)-1, wildNumber(r)
		same(t, "again", tellAll(t, h, timer, i, now), tellAll(t, h, timer, i, now))
		faults[alarm.Check(h).Code]++
	}
	if faults[api.OK] == 0 || faults[api.ErrRange] == 0 || faults[api.ErrForm] == 0 {
		t.Errorf("not all kinds were asked: %v", faults)
	}
}

func tellAll(t *testing.T, h []api.Timer, timer api.Timer, i, now int) string {
	wrong := alarm.Check(h)
	ask := func(what string, f api.Fault, number int, one api.Timer, lists ...[]api.Timer) string {
		if f != none {
			bare(t, what, number, one, lists...)
		}
		if wrong != none && what != "made" {
			same(t, what+": what Check says", f, wrong)
		}
		return fmt.Sprintln(f, number, one, lists)
	}
	added, place, f := alarm.Add(h, timer)
	text := ask("add", f, place, api.Timer{}, added)
	then, gone, f := alarm.Drop(h, i)
	text += ask("drop", f, 0, gone, then)
	left, due, f := alarm.Due(h, now)
	text += ask("due", f, 0, api.Timer{}, left, due)
	made, f := alarm.Made(h)
	return text + ask("made", f, 0, api.Timer{}, made)
}

// roomy lists have more behind their length, which nobody may read or write: read, it would be sooner than all.
func roomy(list []api.Timer) (short, whole []api.Timer) {
	behind := api.Timer{When: -77, Task: -77}
	whole = append(slices.Clone(list), behind, behind, behind, behind, behind)
	return whole[:len(list)], whole
}

// ask is a call, with a name, that answers lists; what stands beside them is none of its matter.
type ask struct {
	what string
	call func(h []api.Timer) [][]api.Timer
}

func asks() []ask {
	adding := func(when int) func(h []api.Timer) [][]api.Timer {
		return func(h []api.Timer) [][]api.Timer {
			then, _, _ := alarm.Add(h, api.Timer{When: when, Task: 3000})
			return [][]api.Timer{then}
		}
	}
	dropping := func(place func(n int) int) func(h []api.Timer) [][]api.Timer {
		return func(h []api.Timer) [][]api.Timer {
			then, _, _ := alarm.Drop(h, place(len(h)))
			return [][]api.Timer{then}
		}
	}
	due := func(now int) func(h []api.Timer) [][]api.Timer {
		return func(h []api.Timer) [][]api.Timer {
			left, due, _ := alarm.Due(h, now)
			return [][]api.Timer{left, due}
		}
	}
	return []ask{
		{"check", func(h []api.Timer) [][]api.Timer { alarm.Check(h); return nil }},
		{"add to the end", adding(9000)},
		{"add to the first place", adding(0)},
		{"add wrongly", adding(-1)},
		{"drop the first", dropping(func(n int) int { return 0 })},
		{"drop one in the middle", dropping(func(n int) int { return n / 2 })},
		{"drop the last", dropping(func(n int) int { return n - 1 })},
		{"drop none", dropping(func(n int) int { return n })},
		{"none is due", due(0)},
		{"some are due", due(104)},
		{"all are due", due(9000)},
		{"made", func(h []api.Timer) [][]api.Timer {
			made, _ := alarm.Made(h)
			return [][]api.Timer{made}
		}},
		{"made of the list turned round", func(h []api.Timer) [][]api.Timer {
			turned := slices.Clone(h)
			slices.Reverse(turned)
			made, _ := alarm.Made(turned)
			return [][]api.Timer{made}
		}},
	}
}

// Lists that are handed in are only read, what lies behind their length is neither read nor written,
// what is answered is new memory, and no two lists of one answer share any.
func TestMemoryIsApart(t *testing.T) {
	for _, n := range []int{0, 1, 2, 5, 6, 22, api.MaxList - 1, api.MaxList} {
		list := rising(100, n)
		h, whole := roomy(list)
		before := fmt.Sprint(whole)
		for _, a := range asks() {
			apart(t, a, h, list)
			same(t, a.what+": what was handed in", whole, before)
		}
	}
	unmade, whole := roomy(falling(30))
	before := fmt.Sprint(whole)
	alarm.Made(unmade)
	same(t, "made: what was handed in", whole, before)
}

// apart writes over all the memory of each list of an answer, also behind its length, and looks at what else has changed.
func apart(t *testing.T, a ask, h, list []api.Timer) {
	t.Helper()
	want := fmt.Sprint(a.call(slices.Clip(list)))
	same(t, a.what+": without more behind", a.call(h), want)
	for i := range a.call(h) {
		lists := a.call(h)
		others := slices.Delete(slices.Clone(lists), i, i+1)
		before := fmt.Sprint(others)
		whole := lists[i][:cap(lists[i])]
		for k := range whole {
			whole[k] = api.Timer{When: 4444, Task: 4444}
		}
		same(t, a.what+": the other lists", others, before)
		same(t, a.what+": the next answer", a.call(h), want)
	}
}
