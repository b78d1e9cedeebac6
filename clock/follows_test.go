package clock_test

import (
	"math/rand"
	"testing"

	"taskmill/api"
	"taskmill/clock"
)

// diary is a clock, and of each alarm that is set when it is to go off next, and its period.
type diary struct {
	c   api.Clock
	due map[int][2]int
}

func (d *diary) set(t *testing.T, id, after, period int) {
	t.Helper()
	_, there := d.due[id]
	then, was, f := clock.Set(d.c, id, after, period)
	same(t, "set", told(was, f), told(there, none))
	d.c = then
	d.due[id] = [2]int{d.c.Now + after, period}
}

func (d *diary) stop(t *testing.T, id int) {
	t.Helper()
	_, there := d.due[id]
	then, was, f := clock.Stop(d.c, id)
	same(t, "stop", told(was, f), told(there, none))
	d.c = then
	delete(d.due, id)
}

// pass has ticks go by, and asks that each alarm goes off just at its times, and all of them in the order of time.
func (d *diary) pass(t *testing.T, ticks int) {
	t.Helper()
	then, off, f := clock.Pass(d.c, ticks)
	same(t, "pass", told(then.Now, f), told(d.c.Now+ticks, none))
	at := d.c.Now
	for _, one := range off {
		when, id := one[0], one[1]
		if when < at || when > then.Now {
			t.Fatalf("%d goes off at %d, behind one at %d, up to %d", id, when, at, then.Now)
		}
		at = when
		next, there := d.due[id]
		same(t, "it goes off at its time", told(when, there), told(next[0], true))
		d.due[id] = [2]int{when + next[1], next[1]}
		if next[1] == 0 {
			delete(d.due, id)
		}
	}
	d.c = then
}

// kept asks that the clock has just the alarms that are due, none of them late, and tells the first.
func (d *diary) kept(t *testing.T) {
	t.Helper()
	same(t, "the clock", clock.Check(d.c), none)
	same(t, "so many alarms", len(d.c.List), len(d.due))
	first := 0
	for _, one := range d.c.List {
		same(t, "an alarm", [2]int{one.When, one.Period}, d.due[one.Id])
	}
	for id, next := range d.due {
		if next[0] <= d.c.Now {
			t.Fatalf("%d is late: %v at %d", id, next, d.c.Now)
		}
		if first == 0 || next[0] < first {
			first = next[0]
		}
	}
	if first > 0 {
		ticks, f := clock.Soon(d.c)
		same(t, "soon", told(ticks, f), told(first-d.c.Now, none))
	}
}

// What follows: no alarm goes off ahead of its time, none is late.
func TestNoneSoonNoneLate(t *testing.T) {
	for seed := range 8 {
		r := rand.New(rand.NewSource(int64(seed)))
		d := diary{due: map[int][2]int{}}
		for range 3000 {
			switch id := 1 + r.Intn(12); r.Intn(5) {
			case 0:
				d.stop(t, id)
			case 1, 2:
				d.set(t, id, 1+r.Intn(30), max(0, r.Intn(20)-5))
			default:
				d.pass(t, r.Intn(8+seed))
			}
			d.kept(t)
		}
	}
}

// What follows: just ahead of what Soon tells nothing goes off, and then the first alarm does.
func TestSoonIsWhenTheFirstGoesOff(t *testing.T) {
	r := rand.New(rand.NewSource(6))
	asked := 0
	for range 5000 {
		c := likely(r)
		ticks, f := clock.Soon(c)
		if f != none || c.Now+ticks > much || c.Next > much-most {
			continue
		}
		asked++
		_, off, f := clock.Pass(c, ticks-1)
		same(t, "just ahead", told(off, f), told([][2]int{}, none))
		_, off, f = clock.Pass(c, ticks)
		same(t, "then", told(off[0], f), told([2]int{c.List[0].When, c.List[0].Id}, none))
	}
	if asked < 1000 {
		t.Errorf("only %d were asked", asked)
	}
}

// What follows: to pass some ticks, and then others, is to pass all of them, where none of these calls has a fault.
func TestSomeAndThenOthers(t *testing.T) {
	r := rand.New(rand.NewSource(7))
	asked, fired := 0, 0
	for range 20000 {
		c, some, rest := likely(r), r.Intn(20), r.Intn(20)
		all, off, f := clock.Pass(c, some+rest)
		first, ahead, firstF := clock.Pass(c, some)
		second, behind, secondF := clock.Pass(first, rest)
		if f != none || firstF != none || secondF != none {
			continue
		}
		same(t, "some, and then others", told(second, plus(ahead, behind...)), told(all, off))
		asked++
		fired += len(off)
	}
	if asked < 5000 || fired < 5000 {
		t.Errorf("only %d were asked, %d went off", asked, fired)
	}
}

// What follows: tick by tick is all at once, where two less than MaxList go off.
func TestTickByTick(t *testing.T) {
	c := clockOf(0, 5, alarm(1, 1, 1, 4), alarm(2, 2, 2, 3), alarm(3, 3, 3, 0), alarm(5, 6, 6, 2), once(4, 1200, 1))
	all, off, f := clock.Pass(c, 2499)
	same(t, "all at once", f, none)
	var each [][2]int
	for range 2499 {
		then, some, f := clock.Pass(c, 1)
		same(t, "a tick", f, none)
		c, each = then, append(each, some...)
	}
	same(t, "tick by tick", told(c, each), told(all, off))
	same(t, "so many", len(each), 2499+1249+833+1+416)
}
