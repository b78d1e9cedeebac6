package clock_test

import (
	"math"
	"testing"

	"taskmill/api"
	"taskmill/clock"
)

// setting is a Set, and what it answers.
type setting struct {
	what              string
	c                 api.Clock
	id, after, period int
	then              api.Clock
	was               bool
}

func askSets(t *testing.T, rows []setting) {
	t.Helper()
	for _, r := range rows {
		then, was, f := clock.Set(r.c, r.id, r.after, r.period)
		same(t, r.what, told(then, was, f), told(r.then, r.was, none))
		same(t, r.what+": the clock then", clock.Check(then), none)
	}
}

// P9.2: an alarm that is not there comes to its place by When, behind all that go off at the same time.
func TestSetOfANewOne(t *testing.T) {
	c := clockOf(10, 9, once(4, 12, 8), alarm(2, 14, 5, 3), once(3, 14, 6), once(7, 17, 0))
	between := func(i int, one api.Alarm) api.Clock {
		return clockOf(10, 10, plus(plus(c.List[:i], one), c.List[i:]...)...)
	}
	askSets(t, []setting{
		{"the first of all", api.Clock{}, 1, 1, 0, clockOf(0, 1, once(1, 1, 0)), false},
		{"into an empty list", api.Clock{List: []api.Alarm{}}, 1, 1, 1, clockOf(0, 1, alarm(1, 1, 1, 0)), false},
		{"the farthest Id", clockOf(5, 7), math.MaxInt, 2, 3, clockOf(5, 8, alarm(math.MaxInt, 7, 3, 7)), false},
		{"ahead of all", c, 1, 1, 0, between(0, once(1, 11, 9)), false},
		{"with the first", c, 1, 2, 6, between(1, alarm(1, 12, 6, 9)), false},
		{"behind the first", c, 1, 3, 0, between(1, once(1, 13, 9)), false},
		{"with two others", c, 1, 4, 0, between(3, once(1, 14, 9)), false},
		{"behind two others", c, 9, 5, 0, between(3, once(9, 15, 9)), false},
		{"ahead of the last", c, 9, 6, 0, between(3, once(9, 16, 9)), false},
		{"with the last", c, 9, 7, 0, between(4, once(9, 17, 9)), false},
		{"behind the last", c, 9, 8, 1, between(4, alarm(9, 18, 1, 9)), false},
		{"far behind the last", c, 9, much, much, between(4, alarm(9, much+10, much, 9)), false},
	})
}

// P9.2: an alarm that is there goes first.
func TestSetAnew(t *testing.T) {
	a, b, d := once(4, 12, 8), alarm(2, 14, 5, 3), once(3, 14, 6)
	c := clockOf(10, 9, a, b, d)
	askSets(t, []setting{
		{"the only one", clockOf(0, 1, once(1, 2, 0)), 1, 5, 0, clockOf(0, 2, once(1, 5, 1)), true},
		{"the only one, just as it was", clockOf(0, 1, alarm(1, 2, 3, 0)), 1, 2, 3, clockOf(0, 2, alarm(1, 2, 3, 1)), true},
		{"the only one, sooner", clockOf(0, 1, once(1, 2, 0)), 1, 1, 4, clockOf(0, 2, alarm(1, 1, 4, 1)), true},
		{"the first, as soon", c, 4, 2, 0, clockOf(10, 10, once(4, 12, 9), b, d), true},
		{"the first, between", c, 4, 3, 0, clockOf(10, 10, once(4, 13, 9), b, d), true},
		{"the first, with the others", c, 4, 4, 0, clockOf(10, 10, b, d, once(4, 14, 9)), true},
		{"the first, behind all", c, 4, 5, 0, clockOf(10, 10, b, d, once(4, 15, 9)), true},
		{"one between, as soon: it is behind the others now", c, 2, 4, 5, clockOf(10, 10, a, d, alarm(2, 14, 5, 9)), true},
		{"one between, ahead of all", c, 2, 1, 0, clockOf(10, 10, once(2, 11, 9), a, d), true},
		{"one between, with the first", c, 2, 2, 0, clockOf(10, 10, a, once(2, 12, 9), d), true},
		{"the last, as soon", c, 3, 4, 0, clockOf(10, 10, a, b, once(3, 14, 9)), true},
		{"the last, ahead of all", c, 3, 1, 7, clockOf(10, 10, alarm(3, 11, 7, 9), a, b), true},
	})
}

// P9.2: the farthest numbers, and as many alarms as there may be.
func TestSetLimits(t *testing.T) {
	all := many(1, most, 5, 2)
	full := clockOf(0, most, all...)
	askSets(t, []setting{
		{"after MaxNum at Now of MaxNum", clockOf(much, 0), 1, much, much, clockOf(much, 1, alarm(1, 2*much, much, 0)), false},
		{"after MaxNum, behind one at 2 MaxNum", clockOf(much, 1, once(2, 2*much, 0)), 1, much, 0, clockOf(much, 2, once(2, 2*much, 0), once(1, 2*much, 1)), false},
		{"Next one below MaxNum", clockOf(0, much-1), 1, 1, 0, clockOf(0, much, once(1, 1, much-1)), false},
		{"Next one below MaxNum, anew", clockOf(0, much-1, once(1, 3, 5)), 1, 1, 0, clockOf(0, much, once(1, 1, much-1)), true},
		{"the last of MaxList", clockOf(0, most-1, all[:most-1]...), most, 5, 2, full, false},
		{"the last of MaxList, ahead of all", clockOf(0, most-1, all[:most-1]...), most, 4, 0, clockOf(0, most, plus([]api.Alarm{once(most, 4, most-1)}, all[:most-1]...)...), false},
		{"the first of MaxList, anew", full, 1, 5, 2, clockOf(0, most+1, plus(all[1:], alarm(1, 5, 2, most))...), true},
		{"the last of MaxList, anew", full, most, 1, 0, clockOf(0, most+1, plus([]api.Alarm{once(most, 1, most)}, all[:most-1]...)...), true},
	})
}

// P9.2: each fault, its place, and the order where several apply.
func TestSetFaults(t *testing.T) {
	some := clockOf(10, 9, once(4, 12, 8), alarm(2, 14, 5, 3))
	full := clockOf(0, most, many(1, most, 5, 2)...)
	late := clockOf(0, much, once(4, 12, 8))
	asks := []struct {
		what              string
		id, after, period int
		want              api.Fault
	}{
		{"Id of 0", 0, 1, 0, fault(api.ErrRange, -1)},
		{"Id of -1", -1, 1, 0, fault(api.ErrRange, -1)},
		{"Id far below", math.MinInt, 1, 0, fault(api.ErrRange, -1)},
		{"after 0", 4, 0, 0, fault(api.ErrRange, -1)},
		{"after -1", 4, -1, 0, fault(api.ErrRange, -1)},
		{"after far below", 9 * most, math.MinInt, 0, fault(api.ErrRange, -1)},
		{"after one beyond MaxNum", 4, much + 1, 0, fault(api.ErrRange, -1)},
		{"after far beyond", 9 * most, math.MaxInt, 0, fault(api.ErrRange, -1)},
		{"a period of -1", 4, 1, -1, fault(api.ErrRange, -1)},
		{"a period far below", 4, 1, math.MinInt, fault(api.ErrRange, -1)},
		{"a period one beyond MaxNum", 9 * most, 1, much + 1, fault(api.ErrRange, -1)},
		{"a period far beyond", 4, 1, math.MaxInt, fault(api.ErrRange, -1)},
		{"all of them", 0, 0, -1, fault(api.ErrRange, -1)},
	}
	for _, a := range asks { // also ahead of ErrMuch, of the full clock and of the late one
		for _, c := range []api.Clock{{}, some, full, late, clockOf(much, much)} {
			then, was, f := clock.Set(c, a.id, a.after, a.period)
			same(t, a.what, told(then, was, f), told(api.Clock{}, false, a.want))
		}
	}
	muches := []struct {
		what string
		c    api.Clock
		id   int
	}{
		{"one beyond MaxList", full, most + 1},
		{"the farthest Id, beyond MaxList", full, math.MaxInt},
		{"Next of MaxNum, no alarm", clockOf(0, much), 1},
		{"Next of MaxNum, a new alarm", late, 1},
		{"Next of MaxNum, an alarm that is there", late, 4},
		{"Next of MaxNum, and one beyond MaxList", clockOf(0, much, full.List...), most + 1},
		{"Next of MaxNum, one of MaxList anew", clockOf(0, much, full.List...), most},
	}
	for _, m := range muches {
		for _, n := range []int{1, 6, much} {
			then, was, f := clock.Set(m.c, m.id, n, n)
			same(t, m.what, told(then, was, f), told(api.Clock{}, false, fault(api.ErrMuch, 0)))
		}
	}
}

// P9.3: the alarm goes, and the others stay as they were; whether it was there.
func TestStop(t *testing.T) {
	a, b, d := once(4, 12, 8), alarm(2, 14, 5, 3), once(math.MaxInt, 14, 6)
	c := clockOf(10, 9, a, b, d)
	all := many(1, most, 5, 2)
	full := clockOf(much, much, many(much-most+1, most, 2*much, much)...)
	rows := []struct {
		what string
		c    api.Clock
		id   int
		then api.Clock
		was  bool
	}{
		{"there is none", api.Clock{}, 1, api.Clock{}, false},
		{"there is none, in an empty list", api.Clock{Now: 3, Next: 2, List: []api.Alarm{}}, 1, clockOf(3, 2), false},
		{"the only one", clockOf(0, 1, once(1, 2, 0)), 1, clockOf(0, 1), true},
		{"another one", clockOf(0, 1, once(1, 2, 0)), 2, clockOf(0, 1, once(1, 2, 0)), false},
		{"the first", c, 4, clockOf(10, 9, b, d), true},
		{"one between", c, 2, clockOf(10, 9, a, d), true},
		{"the last", c, math.MaxInt, clockOf(10, 9, a, b), true},
		{"none of them", c, 3, c, false},
		{"a Seq, but no Id", c, 8, c, false},
		{"a When, but no Id", c, 12, c, false},
		{"Id of 0", c, 0, c, false},
		{"Id of -1", c, -1, c, false},
		{"Id far below", c, math.MinInt, c, false},
		{"the first of MaxList", clockOf(0, most, all...), 1, clockOf(0, most, all[1:]...), true},
		{"the last of MaxList", clockOf(0, most, all...), most, clockOf(0, most, all[:most-1]...), true},
		{"none of MaxList", clockOf(0, most, all...), most + 1, clockOf(0, most, all...), false},
		{"one of MaxList, at the farthest numbers", full, much, clockOf(much, much, full.List[:most-1]...), true},
		{"none of MaxList, at the farthest numbers", full, 1, full, false},
	}
	for _, r := range rows {
		then, was, f := clock.Stop(r.c, r.id)
		same(t, r.what, told(then, was, f), told(r.then, r.was, none))
		same(t, r.what+": the clock then", clock.Check(then), none)
		then, was, f = clock.Stop(then, r.id)
		same(t, r.what+", again", told(then, was, f), told(r.then, false, none))
	}
}
