package clock_test

import (
	"math"
	"slices"
	"testing"

	"taskmill/api"
	"taskmill/clock"
)

// The chapter's example.
func TestExample(t *testing.T) {
	c, was, f := clock.Set(api.Clock{}, 1, 2, 3)
	same(t, "set", told(c, was, f), told("{0 1 [{1 2 3 0}]}", false, none))
	c, off, f := clock.Pass(c, 9)
	same(t, "pass", told(c, off, f), told("{9 4 [{1 11 3 3}]}", "[[2 1] [5 1] [8 1]]", none))
}

// passing is a Pass, and what it answers.
type passing struct {
	what  string
	c     api.Clock
	ticks int
	then  api.Clock
	off   [][2]int
}

func askPasses(t *testing.T, rows []passing) {
	t.Helper()
	for _, r := range rows {
		then, off, f := clock.Pass(r.c, r.ticks)
		same(t, r.what, told(then, off, f), told(r.then, r.off, none))
		same(t, r.what+": the clock then", clock.Check(then), none)
	}
}

// P9.4: alarms without a period go off once, when their time has come.
func TestPassWithoutPeriods(t *testing.T) {
	a, b, d, e := once(4, 12, 8), once(9, 14, 3), once(3, 14, 6), once(7, 17, 0)
	c := clockOf(10, 9, a, b, d, e)
	askPasses(t, []passing{
		{"0 ticks, no alarm", api.Clock{}, 0, api.Clock{}, nil},
		{"some ticks, no alarm", clockOf(3, 2), 4, clockOf(7, 2), nil},
		{"MaxNum ticks, an empty list", api.Clock{List: []api.Alarm{}}, much, clockOf(much, 0), nil},
		{"0 ticks", c, 0, c, nil},
		{"0 ticks, one is left to the first", clockOf(11, 9, a), 0, clockOf(11, 9, a), nil},
		{"one less than is left to the first", c, 1, clockOf(11, 9, a, b, d, e), nil},
		{"what is left to the first", c, 2, clockOf(12, 9, b, d, e), [][2]int{{12, 4}}},
		{"one more", c, 3, clockOf(13, 9, b, d, e), [][2]int{{12, 4}}},
		{"several at one time", c, 4, clockOf(14, 9, e), [][2]int{{12, 4}, {14, 9}, {14, 3}}},
		{"one less than is left to the last", c, 6, clockOf(16, 9, e), [][2]int{{12, 4}, {14, 9}, {14, 3}}},
		{"all", c, 7, clockOf(17, 9), [][2]int{{12, 4}, {14, 9}, {14, 3}, {17, 7}}},
		{"far more", c, much - 10, clockOf(much, 9), [][2]int{{12, 4}, {14, 9}, {14, 3}, {17, 7}}},
	})
}

// P9.4: with a period an alarm comes again, with Next as its Seq.
func TestPassWithPeriods(t *testing.T) {
	three := clockOf(0, 5, alarm(1, 2, 2, 4), alarm(2, 3, 3, 1), once(3, 6, 3))
	even := clockOf(0, 2, alarm(1, 2, 2, 0), alarm(2, 4, 4, 1))
	askPasses(t, []passing{
		{"0 ticks", three, 0, three, nil},
		{"one less than is left to the first", three, 1, clockOf(1, 5, three.List...), nil},
		{"it comes again, behind one", three, 2, clockOf(2, 6, alarm(2, 3, 3, 1), alarm(1, 4, 2, 5), once(3, 6, 3)), [][2]int{{2, 1}}},
		{"it comes again, with another", three, 3, clockOf(3, 7, alarm(1, 4, 2, 5), once(3, 6, 3), alarm(2, 6, 3, 6)), [][2]int{{2, 1}, {3, 2}}},
		{"it comes again, behind two at one time", three, 5, clockOf(5, 8, once(3, 6, 3), alarm(2, 6, 3, 6), alarm(1, 6, 2, 7)), [][2]int{{2, 1}, {3, 2}, {4, 1}}},
		{"three at one time, by their Seqs", three, 6, clockOf(6, 10, alarm(1, 8, 2, 9), alarm(2, 9, 3, 8)), [][2]int{{2, 1}, {3, 2}, {4, 1}, {6, 3}, {6, 2}, {6, 1}}},
		{"who was set first is first", even, 4, clockOf(4, 5, alarm(1, 6, 2, 4), alarm(2, 8, 4, 3)), [][2]int{{2, 1}, {4, 2}, {4, 1}}},
		{"a period of 1", clockOf(7, 1, alarm(5, 8, 1, 0)), 4, clockOf(11, 5, alarm(5, 12, 1, 4)), [][2]int{{8, 5}, {9, 5}, {10, 5}, {11, 5}}},
		{"two with a period of 1", clockOf(7, 2, alarm(5, 8, 1, 0), alarm(3, 8, 1, 1)), 2, clockOf(9, 6, alarm(5, 10, 1, 4), alarm(3, 10, 1, 5)), [][2]int{{8, 5}, {8, 3}, {9, 5}, {9, 3}}},
		{"it comes again just above Now", clockOf(0, 1, alarm(1, 2, 3, 0)), 4, clockOf(4, 2, alarm(1, 5, 3, 1)), [][2]int{{2, 1}}},
		{"it comes again at Now", clockOf(0, 1, alarm(1, 2, 3, 0)), 5, clockOf(5, 3, alarm(1, 8, 3, 2)), [][2]int{{2, 1}, {5, 1}}},
		{"it comes again far behind others", clockOf(0, 3, alarm(1, 1, much, 2), once(2, 2, 0), once(3, much, 1)), 1, clockOf(1, 4, once(2, 2, 0), once(3, much, 1), alarm(1, much+1, much, 3)), [][2]int{{1, 1}}},
	})
}

// P9.4: the farthest times, and the farthest Next.
func TestPassLimits(t *testing.T) {
	askPasses(t, []passing{
		{"0 ticks at MaxNum", clockOf(much, much, once(1, much+1, 0)), 0, clockOf(much, much, once(1, much+1, 0)), nil},
		{"up to MaxNum", clockOf(much-1, 1, once(1, much, 0)), 1, clockOf(much, 1), [][2]int{{much, 1}}},
		{"all MaxNum ticks", clockOf(0, 2, once(1, much, 0), once(2, much+1, 1)), much, clockOf(much, 2, once(2, much+1, 1)), [][2]int{{much, 1}}},
		{"up to 2 MaxNum", clockOf(much-1, 1, alarm(1, much, much, 0)), 1, clockOf(much, 2, alarm(1, 2*much, much, 1)), [][2]int{{much, 1}}},
		{"up to 2 MaxNum, with one that stands there", clockOf(0, 2, alarm(1, much, much, 0), once(2, 2*much, 1)), much, clockOf(much, 3, once(2, 2*much, 1), alarm(1, 2*much, much, 2)), [][2]int{{much, 1}}},
		{"Next becomes MaxNum", clockOf(0, much-1, alarm(1, 1, 1, 0)), 1, clockOf(1, much, alarm(1, 2, 1, much-1)), [][2]int{{1, 1}}},
		{"Next becomes MaxNum by two", clockOf(0, much-2, alarm(1, 1, 1, 0)), 2, clockOf(2, much, alarm(1, 3, 1, much-1)), [][2]int{{1, 1}, {2, 1}}},
		{"Next is MaxNum, without a period", clockOf(0, much, once(1, 1, much-1)), 5, clockOf(5, much), [][2]int{{1, 1}}},
		{"Next is MaxNum, one less than is left", clockOf(0, much, alarm(1, 2, 3, much-1)), 1, clockOf(1, much, alarm(1, 2, 3, much-1)), nil},
	})
}

// firings are n times at which alarms go off, each of the Ids in turn, from the time when on, and each with the period.
func firings(n, when, period int, ids ...int) [][2]int {
	list := make([][2]int, n)
	for i := range list {
		list[i] = [2]int{when + i/len(ids)*period, ids[i%len(ids)]}
	}
	return list
}

// ids are the Ids of alarms.
func ids(list []api.Alarm) []int {
	var all []int
	for _, one := range list {
		all = append(all, one.Id)
	}
	return all
}

// P9.4: MaxList can go off in one Pass: each of many once, or one again and again.
func TestPassOfMaxList(t *testing.T) {
	all, again := many(1, most, 5, 0), many(1, most, 5, 3)
	half := many(1, most/2, 5, 3)
	askPasses(t, []passing{
		{"all at one time", clockOf(0, most, all...), 5, clockOf(5, most), firings(most, 5, 0, ids(all)...)},
		{"all, and they come again", clockOf(0, most, again...), 7, clockOf(7, 2*most, shifted(again, 3, most)...), firings(most, 5, 3, ids(again)...)},
		{"half of them twice", clockOf(0, most/2, half...), 10, clockOf(10, most+most/2, shifted(half, 6, most)...), firings(most, 5, 3, ids(half)...)},
		{"one again and again", clockOf(0, 1, alarm(1, 1, 1, 0)), most, clockOf(most, most+1, alarm(1, most+1, 1, most)), firings(most, 1, 1, 1)},
		{"one again and again, up to MaxNum", clockOf(much-most, much-most, alarm(1, much-most+1, 1, 0)), most, clockOf(much, much, alarm(1, much+1, 1, much-1)), firings(most, much-most+1, 1, 1)},
	})
}

// shifted are the alarms so much later, with Seqs that are so much greater.
func shifted(list []api.Alarm, later, greater int) []api.Alarm {
	list = slices.Clone(list)
	for i := range list {
		list[i].When += later
		list[i].Seq += greater
	}
	return list
}

// P9.4: each fault, its place, and the order where several apply.
func TestPassFaults(t *testing.T) {
	ask := func(what string, c api.Clock, ticks int, want api.Fault) {
		t.Helper()
		then, off, f := clock.Pass(c, ticks)
		same(t, what, told(then, off, f), told(api.Clock{}, [][2]int{}, want))
	}
	again := clockOf(0, 1, alarm(1, 1, 1, 0))
	for _, c := range []api.Clock{{}, again, clockOf(much, much, once(1, much+1, 0)), clockOf(1, much, alarm(1, 2, 1, 0))} {
		for _, ticks := range []int{-1, math.MinInt, much + 1, math.MaxInt, -much} { // also ahead of ErrMuch
			ask("ticks out of range", c, ticks, fault(api.ErrRange, -1))
		}
	}
	rows := []struct {
		what  string
		c     api.Clock
		ticks int
	}{
		{"Now one beyond MaxNum", clockOf(much, 0), 1},
		{"Now one beyond MaxNum, with an alarm", clockOf(much, 1, once(1, much+9, 0)), 1},
		{"Now one beyond MaxNum, by MaxNum ticks", clockOf(1, 0), much},
		{"Now far beyond", clockOf(much, 1, once(1, much+1, 0)), much},
		{"one goes off one time too many", again, most + 1},
		{"one goes off far too often", again, much},
		{"all go off, and one once more", clockOf(0, most, put(many(1, most, 5, 0), 0, alarm(1, 5, 1, 0))...), 6},
		{"all go off, and all once more", clockOf(0, most, many(1, most, 5, 3)...), 8},
		{"one too many, the last at Now of MaxNum", clockOf(much-most-1, 1, alarm(1, much-most, 1, 0)), most + 1},
		{"Next one beyond MaxNum", clockOf(0, much, alarm(1, 2, 3, much-1)), 2},
		{"Next one beyond MaxNum, the last one's", clockOf(0, much, once(1, 2, 4), alarm(2, 2, 3, 5)), 2},
		{"Next one beyond MaxNum, the second time", clockOf(0, much-1, alarm(1, 2, 3, 7)), 5},
		{"Next one beyond MaxNum, of two", clockOf(0, much-1, alarm(1, 2, 3, 7), alarm(2, 2, 3, 8)), 2},
		{"Next beyond MaxNum, and too many", clockOf(0, much-most, alarm(1, 1, 1, 0)), most + 1},
	}
	for _, r := range rows {
		ask(r.what, r.c, r.ticks, fault(api.ErrMuch, 0))
	}
}

// Soon: how many ticks there are to the first alarm.
func TestSoon(t *testing.T) {
	rows := []struct {
		what  string
		c     api.Clock
		ticks int
		f     api.Fault
	}{
		{"no alarm", api.Clock{}, 0, fault(api.ErrNone, 0)},
		{"an empty list", api.Clock{Now: 4, Next: 7, List: []api.Alarm{}}, 0, fault(api.ErrNone, 0)},
		{"no alarm, at the farthest numbers", clockOf(much, much), 0, fault(api.ErrNone, 0)},
		{"the next tick", clockOf(0, 1, once(1, 1, 0)), 1, none},
		{"the next tick, later", clockOf(much, 1, once(1, much+1, 0)), 1, none},
		{"some ticks", clockOf(10, 1, alarm(1, 17, 3, 0)), 7, none},
		{"the first of several", clockOf(10, 3, once(9, 14, 2), alarm(1, 17, 3, 0), once(4, 17, 1)), 4, none},
		{"the first of two at one time", clockOf(10, 2, once(9, 14, 0), once(4, 14, 1)), 4, none},
		{"MaxNum ticks", clockOf(much, 1, once(1, 2*much, 0)), much, none},
		{"2 MaxNum ticks", clockOf(0, 1, once(1, 2*much, 0)), 2 * much, none},
		{"MaxList alarms", clockOf(3, most, many(1, most, 9, 0)...), 6, none},
	}
	for _, r := range rows {
		ticks, f := clock.Soon(r.c)
		same(t, r.what, told(ticks, f), told(r.ticks, r.f))
	}
}
