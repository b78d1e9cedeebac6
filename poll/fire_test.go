package poll_test

import (
	"math"
	"testing"

	"taskmill/api"
	"taskmill/poll"
)

// P10.3: who waits there goes, and is told; if nobody does, it is Ready there.
func TestFire(t *testing.T) {
	rows := []struct {
		what string
		d    api.Desc
		then api.Desc
		who  int
	}{
		{"nobody waits", zero, desc(ready(0)), 0},
		{"Ready already", desc(ready(0)), desc(ready(0)), 0},
		{"Ready already, on both ways", desc(ready(0), ready(1)), desc(ready(0), ready(1)), 0},
		{"nobody waits, with an Until", desc(until(0, 5)), desc(until(0, 5), ready(0)), 0},
		{"nobody waits, the other way is Ready", desc(ready(1)), desc(ready(0), ready(1)), 0},
		{"nobody waits, somebody on the other way", desc(task(1, 3)), desc(ready(0), task(1, 3)), 0},
		{"one waits", desc(task(0, 1)), zero, 1},
		{"the farthest waits", desc(task(0, math.MaxInt)), zero, math.MaxInt},
		{"one waits, with an Until", desc(task(0, 4), until(0, 5)), desc(until(0, 5)), 4},
		{"one waits, the other way is Ready", desc(task(0, 4), ready(1)), desc(ready(1)), 4},
		{"one waits on each way", desc(task(0, 4), task(1, 3)), desc(task(1, 3)), 4},
		{"one waits on each way, with Untils", desc(task(0, 4), task(1, 3), until(0, 1), until(1, 2)), desc(task(1, 3), until(0, 1), until(1, 2)), 4},
		{"Closed", closed, closed, 0},
	}
	for _, r := range rows {
		for way := range 2 {
			then, who, f := poll.Fire(facing(way, r.d), way)
			same(t, told(r.what, way), told(then, who, f), told(facing(way, r.then), r.who, none))
			same(t, told(r.what, way, "the descriptor then"), poll.Check(then), none)
		}
	}
}

// setting is an Until of way 0, and what it answers; it is asked of way 1, too.
type setting struct {
	what      string
	d         api.Desc
	when, now int
	then      api.Desc
	who       int
}

func askUntils(t *testing.T, rows []setting) {
	t.Helper()
	for _, r := range rows {
		for way := range 2 {
			then, who, f := poll.Until(facing(way, r.d), way, r.when, r.now)
			same(t, told(r.what, way), told(then, who, f), told(facing(way, r.then), r.who, none))
			same(t, told(r.what, way, "the descriptor then"), poll.Check(then), none)
		}
	}
}

// P10.4: where nobody waits there, the time is set, and nothing else changes.
func TestUntilOfNobody(t *testing.T) {
	for _, now := range []int{0, 1, 6, 7, 8, much - 1, much} {
		for _, when := range []int{0, 1, 7, much - 1, much} {
			askUntils(t, []setting{
				{"as of nothing", zero, when, now, desc(until(0, when)), 0},
				{"another Until", desc(until(0, 5)), when, now, desc(until(0, when)), 0},
				{"Ready", desc(ready(0)), when, now, desc(ready(0), until(0, when)), 0},
				{"somebody waits on the other way", desc(task(1, 3)), when, now, desc(task(1, 3), until(0, when)), 0},
				{"somebody waits, perhaps late, on the other way", desc(task(1, 3), until(1, 7)), when, now, desc(task(1, 3), until(1, 7), until(0, when)), 0},
			})
		}
	}
}

// P10.4: who waits there goes, and is told, if it is late then.
func TestUntilOfSomebody(t *testing.T) {
	askUntils(t, []setting{
		{"for ever", desc(task(0, 3)), 0, 7, desc(task(0, 3)), 0},
		{"for ever, at 0", desc(task(0, 3)), 0, 0, desc(task(0, 3)), 0},
		{"for ever, at MaxNum", desc(task(0, 3)), 0, much, desc(task(0, 3)), 0},
		{"now", desc(task(0, 3)), 7, 7, desc(until(0, 7)), 3},
		{"one below now", desc(task(0, 3)), 6, 7, desc(until(0, 6)), 3},
		{"one beyond now", desc(task(0, 3)), 8, 7, desc(until(0, 8), task(0, 3)), 0},
		{"1, at 0", desc(task(0, 3)), 1, 0, desc(until(0, 1), task(0, 3)), 0},
		{"1, at 1", desc(task(0, 3)), 1, 1, desc(until(0, 1)), 3},
		{"MaxNum, at MaxNum", desc(task(0, math.MaxInt)), much, much, desc(until(0, much)), math.MaxInt},
		{"MaxNum, one below", desc(task(0, 3)), much, much - 1, desc(until(0, much), task(0, 3)), 0},
		{"1, at MaxNum", desc(task(0, 3)), 1, much, desc(until(0, 1)), 3},
		{"for ever, where it was late", desc(task(0, 3), until(0, 5)), 0, 7, desc(task(0, 3)), 0},
		{"later, where it was late", desc(task(0, 3), until(0, 5)), 8, 7, desc(task(0, 3), until(0, 8)), 0},
		{"sooner, where it was not late", desc(task(0, 3), until(0, 9)), 4, 7, desc(until(0, 4)), 3},
		{"now, with another on the other way", desc(task(0, 3), task(1, 2)), 7, 7, desc(until(0, 7), task(1, 2)), 3},
		{"now, with another, late, on the other way", desc(task(0, 3), task(1, 2), until(1, 1)), 7, 7, desc(until(0, 7), task(1, 2), until(1, 1)), 3},
		{"now, with the other way Ready", desc(task(0, 3), ready(1)), 7, 7, desc(until(0, 7), ready(1)), 3},
	})
}

// P10.4: each fault, its place, and the order where several apply.
func TestUntilFaults(t *testing.T) {
	ask := func(what string, d api.Desc, when, now int, want api.Fault) {
		t.Helper()
		for way := range 2 {
			then, who, f := poll.Until(d, way, when, now)
			same(t, told(what, way, when, now), told(then, who, f), told(zero, 0, want))
		}
	}
	for _, r := range rightDescs() { // also ahead of what is Closed
		for _, wrong := range noTimes() {
			for _, n := range []int{0, 5, much, -1, much + 1} {
				ask(r.what+": when", r.d, wrong, n, fault(api.ErrRange, -1))
				ask(r.what+": now", r.d, n, wrong, fault(api.ErrRange, -1))
			}
		}
	}
	for _, when := range []int{0, 1, 5, much} {
		for _, now := range []int{0, 1, 5, much} {
			ask("Closed", closed, when, now, fault(api.ErrState, -1))
		}
	}
}
