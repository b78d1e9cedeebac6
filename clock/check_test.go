package clock_test

import (
	"math"
	"slices"
	"testing"

	"taskmill/api"
	"taskmill/clock"
)

// rightClock is a clock with which nothing is wrong.
type rightClock struct {
	what string
	c    api.Clock
}

func rightClocks() []rightClock {
	return []rightClock{
		{"the zero clock", api.Clock{}},
		{"an empty list", api.Clock{List: []api.Alarm{}}},
		{"Now and Next of MaxNum", clockOf(much, much)},
		{"Now and Next one below MaxNum", clockOf(much-1, much-1)},
		{"Now of MaxNum, Next 0", clockOf(much, 0)},
		{"Now 0, Next of MaxNum", clockOf(0, much)},
		{"Id, When and Next of 1", clockOf(0, 1, once(1, 1, 0))},
		{"the farthest Id", clockOf(0, 1, once(math.MaxInt, 1, 0))},
		{"When of Now plus 1", clockOf(41, 1, once(1, 42, 0))},
		{"When of MaxNum plus 1 at Now of MaxNum", clockOf(much, 1, once(1, much+1, 0))},
		{"When of 2 MaxNum", clockOf(much, 1, once(1, 2*much, 0))},
		{"When of 2 MaxNum at Now 0", clockOf(0, 1, once(1, 2*much, 0))},
		{"Period of 1", clockOf(0, 1, alarm(1, 1, 1, 0))},
		{"Period of MaxNum", clockOf(0, 1, alarm(1, 1, much, 0))},
		{"Seq of 0 with Next above", clockOf(0, 9, once(1, 1, 0))},
		{"Seq of Next - 1", clockOf(0, 9, once(1, 1, 8))},
		{"Seq of MaxNum - 1", clockOf(0, much, once(1, 1, much-1))},
		{"one When, Seqs that rise", clockOf(0, 9, once(3, 5, 2), once(1, 5, 4), once(2, 5, 8))},
		{"Whens that rise, Seqs that fall", clockOf(0, 9, once(1, 5, 8), once(3, 6, 4), once(2, 7, 2))},
		{"Whens that rise, with Seqs that rise in one", clockOf(4, 9, once(1, 5, 7), once(3, 5, 8), alarm(2, 7, 3, 0), once(9, 7, 4))},
		{"MaxList alarms", clockOf(0, most, many(1, most, 1, 0)...)},
		{"MaxList alarms, with periods", clockOf(much, much, many(much-most+1, most, 2*much, much)...)},
	}
}

// wrongClock is a clock of which Check says something, and what it says.
type wrongClock struct {
	what string
	c    api.Clock
	want api.Fault
}

func wrongClocks() []wrongClock {
	return slices.Concat(wrongCounts(), wrongNumbers(), wrongTwice(), wrongOrders(), wrongTwofold(), wrongInTurn())
}

func wrongCounts() []wrongClock {
	return []wrongClock{
		{"one too many", clockOf(0, much, many(1, most+1, 1, 0)...), fault(api.ErrMany, 0)},
		{"far too many", clockOf(0, much, many(1, 3*most, 1, 0)...), fault(api.ErrMany, 0)},
		{"Now of -1", clockOf(-1, 0), fault(api.ErrRange, 0)},
		{"Now far below", clockOf(math.MinInt, 0), fault(api.ErrRange, 0)},
		{"Now one beyond MaxNum", clockOf(much+1, 0), fault(api.ErrRange, 0)},
		{"Now far beyond", clockOf(math.MaxInt, 0), fault(api.ErrRange, 0)},
		{"Now far beyond, with an alarm", clockOf(math.MaxInt, 1, once(1, 1, 0)), fault(api.ErrRange, 0)},
		{"Next of -1", clockOf(0, -1), fault(api.ErrRange, 0)},
		{"Next far below", clockOf(0, math.MinInt), fault(api.ErrRange, 0)},
		{"Next far below, with an alarm", clockOf(0, math.MinInt, once(1, 1, 0)), fault(api.ErrRange, 0)},
		{"Next one beyond MaxNum", clockOf(0, much+1), fault(api.ErrRange, 0)},
		{"Next one beyond MaxNum, with an alarm", clockOf(0, much+1, once(1, 1, much)), fault(api.ErrRange, 0)},
		{"Next far beyond", clockOf(0, math.MaxInt), fault(api.ErrRange, 0)},
	}
}

// wrongNumbers are clocks with an alarm that has a number which may not stand there.
func wrongNumbers() []wrongClock {
	var list []wrongClock
	add := func(what string, one api.Alarm) {
		all := many(1, most, 42, 0)
		list = append(list,
			wrongClock{what, clockOf(41, most, one), fault(api.ErrRange, 1)},
			wrongClock{what + ", the second", clockOf(41, most, once(7, 42, 5), one), fault(api.ErrRange, 2)},
			wrongClock{what + ", the first of two", clockOf(41, most, one, once(7, 42, 5)), fault(api.ErrRange, 1)},
			wrongClock{what + ", the last of MaxList", clockOf(41, most, put(all, most-1, one)...), fault(api.ErrRange, most)},
		)
	}
	add("Id of 0", once(0, 42, 6))
	add("Id of -1", once(-1, 42, 6))
	add("Id far below", once(math.MinInt, 42, 6))
	add("When of Now", once(most, 41, 6))
	add("When one below Now", once(most, 40, 6))
	add("When of 0", once(most, 0, 6))
	add("When far below", once(most, math.MinInt, 6))
	add("When one beyond 2 MaxNum", once(most, 2*much+1, 6))
	add("When far beyond", once(most, math.MaxInt, 6))
	add("Period of -1", alarm(most, 42, -1, 6))
	add("Period far below", alarm(most, 42, math.MinInt, 6))
	add("Period one beyond MaxNum", alarm(most, 42, much+1, 6))
	add("Period far beyond", alarm(most, 42, math.MaxInt, 6))
	add("Seq of -1", once(most, 42, -1))
	add("Seq far below", once(most, 42, math.MinInt))
	add("Seq of Next", once(most, 42, most))
	add("Seq one beyond Next", once(most, 42, most+1))
	add("Seq far beyond", once(most, 42, math.MaxInt))
	return append(list,
		wrongClock{"Seq of 0 at Next 0", clockOf(0, 0, once(1, 1, 0)), fault(api.ErrRange, 1)},
		wrongClock{"When of 0 at Now 0", clockOf(0, 1, once(1, 0, 0)), fault(api.ErrRange, 1)},
		wrongClock{"When of MaxNum at Now of MaxNum", clockOf(much, 1, once(1, much, 0)), fault(api.ErrRange, 1)})
}

func wrongTwice() []wrongClock {
	all := many(1, most, 1, 0)
	return []wrongClock{
		{"an Id just ahead", clockOf(0, 9, once(4, 1, 0), once(4, 2, 1)), fault(api.ErrTwice, 2)},
		{"an Id just ahead, at one time", clockOf(0, 9, once(4, 1, 0), once(4, 1, 1)), fault(api.ErrTwice, 2)},
		{"an Id ahead", clockOf(0, 9, once(1, 1, 4), once(4, 2, 1), once(3, 2, 2), once(4, 5, 0), once(2, 6, 3)), fault(api.ErrTwice, 4)},
		{"the farthest Id ahead", clockOf(0, 9, once(math.MaxInt, 1, 0), once(1, 2, 1), once(math.MaxInt, 3, 2)), fault(api.ErrTwice, 3)},
		{"a Seq just ahead", clockOf(0, 9, once(4, 1, 3), once(5, 2, 3)), fault(api.ErrTwice, 2)},
		{"a Seq just ahead, at one time", clockOf(0, 9, once(4, 1, 3), once(5, 1, 3)), fault(api.ErrTwice, 2)},
		{"a Seq of 0 ahead", clockOf(0, 9, once(4, 1, 0), once(5, 2, 1), once(6, 3, 0)), fault(api.ErrTwice, 3)},
		{"a Seq ahead", clockOf(0, 9, once(1, 1, 4), once(4, 2, 1), once(3, 2, 2), once(5, 5, 4), once(2, 6, 3)), fault(api.ErrTwice, 4)},
		{"an Id and a Seq ahead", clockOf(0, 9, once(4, 1, 3), once(4, 2, 3)), fault(api.ErrTwice, 2)},
		{"an Id and a Seq of two ahead", clockOf(0, 9, once(4, 1, 3), once(5, 2, 1), once(4, 3, 1)), fault(api.ErrTwice, 3)},
		{"the last of MaxList has the first one's Id", clockOf(0, most, put(all, most-1, once(1, 1, most-1))...), fault(api.ErrTwice, most)},
		{"the last of MaxList has the first one's Seq", clockOf(0, most, put(all, most-1, once(most, 2, 0))...), fault(api.ErrTwice, most)},
	}
}

func wrongOrders() []wrongClock {
	all := many(1, most, 7, 0)
	return []wrongClock{
		{"a When that falls", clockOf(0, 9, once(1, 6, 0), once(2, 5, 1)), fault(api.ErrForm, 2)},
		{"a When that falls, as does its Seq", clockOf(0, 9, once(1, 6, 1), once(2, 5, 0)), fault(api.ErrForm, 2)},
		{"a When that falls far", clockOf(0, 9, once(1, 2*much, 0), once(2, 1, 1)), fault(api.ErrForm, 2)},
		{"one When, and a Seq that falls", clockOf(0, 9, once(1, 6, 1), once(2, 6, 0)), fault(api.ErrForm, 2)},
		{"one When, and a Seq that falls later", clockOf(0, 9, once(1, 6, 1), once(2, 6, 5), once(3, 6, 4)), fault(api.ErrForm, 3)},
		{"a When that falls between two", clockOf(0, 9, once(1, 3, 0), once(2, 6, 1), once(3, 4, 2), once(4, 5, 3)), fault(api.ErrForm, 3)},
		{"a When that falls below all", clockOf(0, 9, once(1, 3, 0), once(2, 6, 1), once(3, 7, 2), once(4, 1, 3)), fault(api.ErrForm, 4)},
		{"the last When of MaxList falls", clockOf(0, most, put(all, most-1, once(most, 6, most-1))...), fault(api.ErrForm, most)},
		{"the first Seq of MaxList is the greatest", clockOf(0, most+1, put(all, 0, once(1, 7, most))...), fault(api.ErrForm, 2)},
	}
}

// wrongTwofold are clocks with more than one thing wrong, of which what is named first is told.
func wrongTwofold() []wrongClock {
	lots := many(0, most+1, 0, -1)
	return []wrongClock{
		{"many, ahead of Now below", clockOf(-1, much, lots...), fault(api.ErrMany, 0)},
		{"many, ahead of Now beyond", clockOf(much+1, much, lots...), fault(api.ErrMany, 0)},
		{"many, ahead of Next below", clockOf(0, -1, lots...), fault(api.ErrMany, 0)},
		{"many, ahead of Next beyond", clockOf(0, much+1, lots...), fault(api.ErrMany, 0)},
		{"many, ahead of an Id of 0", clockOf(0, much, lots...), fault(api.ErrMany, 0)},
		{"many, ahead of an Id twice", clockOf(0, much, plus(many(1, most, 1, 0), once(1, 1, 0))...), fault(api.ErrMany, 0)},
		{"Now and Next below", clockOf(-1, -1), fault(api.ErrRange, 0)},
		{"Now beyond, ahead of an Id of 0", clockOf(much+1, 9, once(0, much+2, 0)), fault(api.ErrRange, 0)},
		{"Now below, ahead of an Id twice", clockOf(-1, 9, once(4, 1, 0), once(4, 2, 1)), fault(api.ErrRange, 0)},
		{"Next below, ahead of a Seq of -1", clockOf(0, -1, once(1, 1, -2)), fault(api.ErrRange, 0)},
		{"Next beyond, ahead of a When that falls", clockOf(0, much+1, once(1, 6, 0), once(2, 5, 1)), fault(api.ErrRange, 0)},
	}
}

// wrongInTurn are clocks with more than one thing wrong with alarms: the first one's is told, and of it what is named first.
func wrongInTurn() []wrongClock {
	return []wrongClock{
		{"Period of -1, ahead of its Id twice", clockOf(0, 9, once(4, 1, 0), alarm(4, 2, -1, 1)), fault(api.ErrRange, 2)},
		{"an Id of 0, ahead of its Seq twice", clockOf(0, 9, once(4, 1, 0), once(0, 2, 0)), fault(api.ErrRange, 2)},
		{"When of Now, ahead of its falling", clockOf(3, 9, once(4, 5, 0), once(1, 3, 1)), fault(api.ErrRange, 2)},
		{"an Id of 0, ahead of a When that falls", clockOf(0, 9, once(4, 5, 0), once(0, 3, 1)), fault(api.ErrRange, 2)},
		{"an Id twice, ahead of its When that falls", clockOf(0, 9, once(4, 5, 0), once(4, 3, 1)), fault(api.ErrTwice, 2)},
		{"an Id twice, ahead of its Seq that falls", clockOf(0, 9, once(4, 5, 1), once(4, 5, 0)), fault(api.ErrTwice, 2)},
		{"a Seq twice, ahead of its When that falls", clockOf(0, 9, once(4, 5, 0), once(1, 3, 0)), fault(api.ErrTwice, 2)},
		{"an Id of 0, ahead of another", clockOf(0, 9, once(0, 5, 0), once(0, 6, 1)), fault(api.ErrRange, 1)},
		{"an Id of 0, ahead of a later Id twice", clockOf(0, 9, once(4, 5, 0), once(0, 6, 1), once(4, 7, 2)), fault(api.ErrRange, 2)},
		{"an Id of 0, ahead of a later When that falls", clockOf(0, 9, once(0, 5, 0), once(1, 4, 1)), fault(api.ErrRange, 1)},
		{"an Id twice, ahead of a later Id of 0", clockOf(0, 9, once(4, 5, 0), once(4, 6, 1), once(0, 7, 2)), fault(api.ErrTwice, 2)},
		{"an Id twice, ahead of a later When that falls", clockOf(0, 9, once(4, 5, 0), once(4, 6, 1), once(1, 5, 2)), fault(api.ErrTwice, 2)},
		{"a When that falls, ahead of a later Id of 0", clockOf(0, 9, once(4, 5, 0), once(1, 4, 1), once(0, 7, 2)), fault(api.ErrForm, 2)},
		{"a When that falls, ahead of a later Id twice", clockOf(0, 9, once(4, 5, 0), once(1, 4, 1), once(4, 7, 2)), fault(api.ErrForm, 2)},
		{"a When that falls, ahead of another", clockOf(0, 9, once(4, 5, 0), once(1, 4, 1), once(2, 3, 2)), fault(api.ErrForm, 2)},
	}
}

// P9.1: each fault, its place, and the order where several apply.
func TestCheck(t *testing.T) {
	for _, r := range rightClocks() {
		same(t, r.what, clock.Check(r.c), none)
	}
	for _, w := range wrongClocks() {
		same(t, w.what, clock.Check(w.c), w.want)
	}
}

// All tell first what Check says, also where what they are given beside the clock is wrong.
func TestCheckIsAheadOfAll(t *testing.T) {
	for _, w := range wrongClocks() {
		for _, n := range []int{1, 4, 0, -1, much, much + 1, math.MinInt, math.MaxInt} {
			then, was, f := clock.Set(w.c, n, n, n)
			same(t, w.what+": set", told(then, was, f), told(api.Clock{}, false, w.want))
			then, was, f = clock.Stop(w.c, n)
			same(t, w.what+": stop", told(then, was, f), told(api.Clock{}, false, w.want))
			then, off, f := clock.Pass(w.c, n)
			same(t, w.what+": pass", told(then, off, f), told(api.Clock{}, [][2]int{}, w.want))
		}
		ticks, f := clock.Soon(w.c)
		same(t, w.what+": soon", told(ticks, f), told(0, w.want))
	}
}
