package sync_test

import (
	"fmt"
	"math"
	"slices"
	"testing"

	"taskmill/api"
	"taskmill/sync"
)

// The chapter's example.
func TestExample(t *testing.T) {
	s, got, f := sync.Acquire(sema(1), 1, 2, false)
	same(t, "task 1 wants 2", told(s, got, f), told("{1 [{1 false 2}]}", false, none))
	s, got, f = sync.Acquire(s, 2, 1, false)
	same(t, "task 2 wants 1", told(s, got, f), told("{1 [{1 false 2} {2 false 1}]}", false, none))
	s, tasks, f := sync.Release(s, 1)
	same(t, "1 is released", told(s, tasks, f), told("{0 [{2 false 1}]}", []int{1}, none))
}

// P8.5: who gets what it wants, with try as without.
func TestAcquireGets(t *testing.T) {
	rows := []struct{ free, n, left int }{
		{1, 1, 0},
		{2, 1, 1},
		{7, 7, 0},
		{7, 6, 1},
		{much, 1, much - 1},
		{much - 1, much - 1, 0},
		{much, much - 1, 1},
		{much, much, 0},
	}
	for _, r := range rows {
		for _, try := range []bool{false, true} {
			for _, task := range []int{1, 5, last} {
				then, got, f := sync.Acquire(sema(r.free), task, r.n, try)
				same(t, fmt.Sprint(r.n, " of ", r.free), told(then, got, f), told(sema(r.left), true, none))
			}
		}
	}
	then, got, f := sync.Acquire(api.Sema{Free: 3, Line: []api.Want{}}, 1, 3, false)
	same(t, "an empty line", told(then, got, f), told(sema(0), true, none))
}

// P8.5: who can't get it comes to the end of Line, or, with try, leaves the semaphore as it was.
func TestAcquireWaits(t *testing.T) {
	line := []api.Want{wants(4, 6), wants(9, 1), wants(last, much)}
	rows := []struct {
		what string
		s    api.Sema
		n    int
	}{
		{"one, none is free", sema(0), 1},
		{"MaxNum, none is free", sema(0), much},
		{"one more than is free", sema(5), 6},
		{"MaxNum, one less is free", sema(much - 1), much},
		{"one, none is free, some wait", sema(0, line...), 1},
		{"less than is free, one waits", sema(5, line[0]), 1},
		{"just what is free, one waits", sema(5, line[0]), 5},
		{"one more than is free, one waits", sema(5, line[0]), 6},
		{"less than is free, some wait", sema(5, line...), 1},
		{"much is free, one wants all", sema(much-1, line[2]), 1},
	}
	for _, r := range rows {
		want := sema(r.s.Free, plus(r.s.Line, wants(3, r.n))...)
		then, got, f := sync.Acquire(r.s, 3, r.n, false)
		same(t, r.what, told(then, got, f), told(want, false, none))
		then, got, f = sync.Acquire(r.s, 3, r.n, true)
		same(t, r.what+", try", told(then, got, f), told(r.s, false, none))
	}
}

// P8.5: tasks from 1 to the farthest, and as many as there may be.
func TestAcquireLimits(t *testing.T) {
	all := manyWant(1, most, 2)
	for _, task := range []int{1, last} {
		then, got, f := sync.Acquire(sema(1), task, much, false)
		same(t, "who waits", told(then, got, f), told(sema(1, wants(task, much)), false, none))
	}
	then, got, f := sync.Acquire(sema(1, all[:most-1]...), most, 2, false)
	same(t, "the last of MaxList", told(then, got, f), told(sema(1, all...), false, none))
	then, got, f = sync.Acquire(sema(1, all[:most-1]...), most, 2, true)
	same(t, "the last of MaxList, try", told(then, got, f), told(sema(1, all[:most-1]...), false, none))
}

// wrongSema is a semaphore that has a fault.
type wrongSema struct {
	what string
	s    api.Sema
	want api.Fault
}

func wrongSemas() []wrongSema {
	return slices.Concat(wrongFrees(), wrongFirsts(), wrongWants(), wrongInTurn())
}

func wrongFrees() []wrongSema {
	all := manyWant(0, most+1, 1)
	return []wrongSema{
		{"one too many", sema(0, manyWant(1, most+1, 1)...), fault(api.ErrMany, 0)},
		{"far too many", sema(0, manyWant(1, 3*most, 1)...), fault(api.ErrMany, 0)},
		{"many, ahead of Free below, and a task 0", sema(-1, all...), fault(api.ErrMany, 0)},
		{"many, ahead of Free beyond, and a task 0", sema(much+1, all...), fault(api.ErrMany, 0)},
		{"many, ahead of one who wants what is free", sema(1, all...), fault(api.ErrMany, 0)},
		{"Free -1", sema(-1), fault(api.ErrRange, 0)},
		{"Free -1, one waits", sema(-1, wants(1, 1)), fault(api.ErrRange, 0)},
		{"Free far below", sema(math.MinInt), fault(api.ErrRange, 0)},
		{"Free one beyond MaxNum", sema(much + 1), fault(api.ErrRange, 0)},
		{"Free far beyond", sema(math.MaxInt), fault(api.ErrRange, 0)},
		{"Free beyond, ahead of one who wants what is free", sema(much+1, wants(1, 1)), fault(api.ErrRange, 0)},
		{"Free below, ahead of one who wants less", sema(-1, wants(1, -2)), fault(api.ErrRange, 0)},
		{"Free below, ahead of a task 0", sema(-1, wants(0, 1)), fault(api.ErrRange, 0)},
		{"Free beyond, ahead of N beyond", sema(much+1, wants(1, much+2)), fault(api.ErrRange, 0)},
	}
}

// wrongFirsts are semaphores whose first one wants no more than is free; that is ahead of all else that is wrong in Line.
func wrongFirsts() []wrongSema {
	return []wrongSema{
		{"just what is free", sema(1, wants(1, 1)), fault(api.ErrForm, 0)},
		{"less than is free", sema(5, wants(1, 4)), fault(api.ErrForm, 0)},
		{"all of MaxNum", sema(much, wants(1, much)), fault(api.ErrForm, 0)},
		{"just what is free, ahead of others", sema(5, wants(1, 5), wants(2, 6)), fault(api.ErrForm, 0)},
		{"MaxList want just what is free", sema(1, manyWant(1, most, 1)...), fault(api.ErrForm, 0)},
		{"N of 0", sema(0, wants(1, 0)), fault(api.ErrForm, 0)},
		{"N of -1", sema(0, wants(1, -1)), fault(api.ErrForm, 0)},
		{"N far below", sema(much, wants(1, math.MinInt)), fault(api.ErrForm, 0)},
		{"ahead of its task 0", sema(1, wants(0, 1)), fault(api.ErrForm, 0)},
		{"ahead of its Write", sema(1, writes(1, 1)), fault(api.ErrForm, 0)},
		{"ahead of a task twice", sema(1, wants(1, 1), wants(1, 2)), fault(api.ErrForm, 0)},
		{"ahead of a later N", sema(1, wants(1, 1), wants(2, 0)), fault(api.ErrForm, 0)},
	}
}

func wrongWants() []wrongSema {
	all := manyWant(1, most, 6)
	return []wrongSema{
		{"task 0", sema(0, wants(0, 1)), fault(api.ErrRange, 1)},
		{"task -1", sema(5, wants(3, 6), wants(-1, 1), wants(2, 1)), fault(api.ErrRange, 2)},
		{"a task far below", sema(5, wants(3, 6), wants(2, 1), wants(math.MinInt, 1)), fault(api.ErrRange, 3)},
		{"the last task of MaxList", sema(5, with(all, most-1, wants(0, 6))...), fault(api.ErrRange, most)},
		{"the first one's N one beyond", sema(much, wants(1, much+1)), fault(api.ErrRange, 1)},
		{"the first one's N far beyond", sema(0, wants(1, math.MaxInt)), fault(api.ErrRange, 1)},
		{"a later N one beyond", sema(5, wants(3, 6), wants(2, much+1)), fault(api.ErrRange, 2)},
		{"a later N of 0", sema(5, wants(3, 6), wants(2, 0)), fault(api.ErrRange, 2)},
		{"a later N of -1", sema(5, wants(3, 6), wants(2, 1), wants(7, -1)), fault(api.ErrRange, 3)},
		{"a later N far below", sema(5, wants(3, 6), wants(2, math.MinInt)), fault(api.ErrRange, 2)},
		{"the last N of MaxList", sema(5, with(all, most-1, wants(most, 0))...), fault(api.ErrRange, most)},
		{"a task just ahead", sema(5, wants(3, 6), wants(3, 6)), fault(api.ErrTwice, 2)},
		{"a task ahead", sema(5, wants(3, 6), wants(2, 1), wants(7, 1), wants(2, 9), wants(1, 1)), fault(api.ErrTwice, 4)},
		{"the farthest task ahead", sema(0, wants(last, 6), wants(2, 1), wants(last, 1)), fault(api.ErrTwice, 3)},
		{"the last of MaxList is the first", sema(5, with(all, most-1, wants(1, 6))...), fault(api.ErrTwice, most)},
		{"the first has Write", sema(5, writes(3, 6)), fault(api.ErrForm, 1)},
		{"a later one has Write", sema(5, wants(3, 6), wants(2, 1), writes(7, 1), wants(1, 1)), fault(api.ErrForm, 3)},
		{"the last of MaxList has Write", sema(5, with(all, most-1, writes(most, 6))...), fault(api.ErrForm, most)},
	}
}

// wrongInTurn are semaphores with more than one thing wrong with those who wait: the first one's is told, and of it what is named first.
func wrongInTurn() []wrongSema {
	first := wants(3, 6)
	return []wrongSema{
		{"task 0 ahead of its Write", sema(0, writes(0, 1)), fault(api.ErrRange, 1)},
		{"task 0 ahead of another one", sema(0, first, wants(0, 1), wants(0, 1)), fault(api.ErrRange, 2)},
		{"N ahead of its task twice", sema(0, first, wants(3, 0)), fault(api.ErrRange, 2)},
		{"N ahead of its Write", sema(0, first, writes(4, much+1)), fault(api.ErrRange, 2)},
		{"a task twice ahead of its Write", sema(0, first, writes(3, 6)), fault(api.ErrTwice, 2)},
		{"Write ahead of a later task 0", sema(0, writes(3, 6), wants(0, 1)), fault(api.ErrForm, 1)},
		{"Write ahead of a later N", sema(0, writes(3, 6), wants(1, 0)), fault(api.ErrForm, 1)},
		{"Write ahead of a later task twice", sema(0, writes(3, 6), wants(3, 1)), fault(api.ErrForm, 1)},
		{"Write ahead of another one", sema(0, first, writes(4, 6), writes(5, 1)), fault(api.ErrForm, 2)},
		{"a task twice ahead of a later task 0", sema(0, first, first, wants(0, 1)), fault(api.ErrTwice, 2)},
		{"a task twice ahead of a later Write", sema(0, first, first, writes(4, 1)), fault(api.ErrTwice, 2)},
		{"a task 0 ahead of a later task twice", sema(0, first, wants(0, 1), first), fault(api.ErrRange, 2)},
		{"N ahead of a later task twice", sema(0, first, wants(2, 0), first), fault(api.ErrRange, 2)},
		{"N ahead of a later Write", sema(0, first, wants(2, much+1), writes(4, 1)), fault(api.ErrRange, 2)},
	}
}

// wrongAcquire is a semaphore that is right, and what can't be acquired of it.
type wrongAcquire struct {
	what    string
	s       api.Sema
	task, n int
	want    api.Fault
}

func wrongAcquires() []wrongAcquire {
	some, full := sema(5, wants(3, 6), wants(last, 1), wants(2, 1)), sema(1, manyWant(1, most, 2)...)
	return []wrongAcquire{
		{"task 0", sema(5), 0, 1, fault(api.ErrRange, -1)},
		{"task -1", some, -1, 1, fault(api.ErrRange, -1)},
		{"a task far below", some, math.MinInt, 9, fault(api.ErrRange, -1)},
		{"n of 0", sema(5), 1, 0, fault(api.ErrRange, -1)},
		{"n of -1", some, 1, -1, fault(api.ErrRange, -1)},
		{"n far below", some, 1, math.MinInt, fault(api.ErrRange, -1)},
		{"n one beyond MaxNum", sema(much), 1, much + 1, fault(api.ErrRange, -1)},
		{"n far beyond", some, 1, math.MaxInt, fault(api.ErrRange, -1)},
		{"the first who waits", some, 3, 1, fault(api.ErrTwice, -1)},
		{"one who waits between", some, last, 9, fault(api.ErrTwice, -1)},
		{"the last who waits", some, 2, 1, fault(api.ErrTwice, -1)},
		{"MaxList wait", full, most + 1, 1, fault(api.ErrMuch, 0)},
		{"MaxList wait, for more", full, last, much, fault(api.ErrMuch, 0)},
		{"task 0 ahead of MaxList", full, 0, 1, fault(api.ErrRange, -1)},
		{"n of 0 ahead of who waits", some, 3, 0, fault(api.ErrRange, -1)},
		{"n beyond ahead of who waits", some, 2, much + 1, fault(api.ErrRange, -1)},
		{"n of 0 ahead of MaxList", full, most + 1, 0, fault(api.ErrRange, -1)},
		{"it waits, ahead of MaxList", full, most, 1, fault(api.ErrTwice, -1)},
	}
}

// P8.5: each fault, its place, and the order where several apply, with try as without.
func TestAcquireFaults(t *testing.T) {
	rows := wrongAcquires()
	for _, w := range wrongSemas() {
		for _, task := range []int{9 * most, 3, 0} {
			rows = append(rows, wrongAcquire{w.what, w.s, task, 1, w.want}, wrongAcquire{w.what, w.s, task, 0, w.want})
		}
	}
	for _, r := range rows {
		for _, try := range []bool{false, true} {
			then, got, f := sync.Acquire(r.s, r.task, r.n, try)
			same(t, r.what, told(then, got, f), told(sema(0), false, r.want))
		}
	}
}

// P8.6: what is free then, and who got theirs.
func TestRelease(t *testing.T) {
	a, b, c := wants(4, 6), wants(9, 1), wants(last, 3)
	rows := []struct {
		what  string
		s     api.Sema
		n     int
		then  api.Sema
		tasks []int
	}{
		{"0 to none", sema(0), 0, sema(0), nil},
		{"1 to none", sema(0), 1, sema(1), nil},
		{"MaxNum to none", sema(0), much, sema(much), nil},
		{"0 to MaxNum", sema(much), 0, sema(much), nil},
		{"1 to MaxNum less one", sema(much - 1), 1, sema(much), nil},
		{"0, some wait", sema(5, a, b), 0, sema(5, a, b), nil},
		{"one less than the first wants", sema(2, a, b), 3, sema(5, a, b), nil},
		{"just what the first wants", sema(2, a, b), 4, sema(0, b), []int{4}},
		{"just what the only one wants", sema(2, a), 4, sema(0), []int{4}},
		{"more than the only one wants", sema(2, a), 7, sema(3), []int{4}},
		{"just what two want", sema(2, a, b, c), 5, sema(0, c), []int{4, 9}},
		{"less than the third wants", sema(2, a, b, c), 7, sema(2, c), []int{4, 9}},
		{"just what all want", sema(2, a, b, c), 8, sema(0), []int{4, 9, last}},
		{"more than all want", sema(2, a, b, c), 100, sema(92), []int{4, 9, last}},
		{"nobody gets ahead of the second", sema(0, b, a, c), 6, sema(5, a, c), []int{9}},
		{"nobody gets ahead of the first", sema(0, a, b, c), 5, sema(5, a, b, c), nil},
		{"MaxNum to one who wants it", sema(0, wants(1, much)), much, sema(0), []int{1}},
		{"MaxNum less one to one who wants MaxNum", sema(0, wants(1, much), b), much - 1, sema(much-1, wants(1, much), b), nil},
		{"MaxNum to two, of whom one wants it", sema(0, b, wants(1, much)), much, sema(much-1, wants(1, much)), []int{9}},
	}
	for _, r := range rows {
		then, tasks, f := sync.Release(r.s, r.n)
		same(t, r.what, told(then, tasks, f), told(r.then, r.tasks, none))
	}
}

// P8.6: as many as there may be.
func TestReleaseLimits(t *testing.T) {
	all := manyWant(1, most, 2)
	then, tasks, f := sync.Release(sema(1, all...), 2*most-1)
	same(t, "MaxList get theirs", told(then, tasks, f), told(sema(0), upTo(1, most), none))
	then, tasks, f = sync.Release(sema(1, all...), 2*most-2)
	same(t, "all but one get theirs", told(then, tasks, f), told(sema(1, all[most-1]), upTo(1, most-1), none))
	then, tasks, f = sync.Release(sema(1, all...), 0)
	same(t, "none gets its own", told(then, tasks, f), told(sema(1, all...), []int{}, none))
	then, tasks, f = sync.Release(sema(1, all...), much-1)
	same(t, "as much as there may be", told(then, tasks, f), told(sema(much-2*most), upTo(1, most), none))
}

// P8.6: each fault, its place, and the order where several apply. What is free is asked ahead of giving.
func TestReleaseFaults(t *testing.T) {
	type row struct {
		what string
		s    api.Sema
		n    int
		want api.Fault
	}
	rows := []row{
		{"n of -1", sema(5), -1, fault(api.ErrRange, -1)},
		{"n of -1, some wait", sema(5, wants(3, 6)), -1, fault(api.ErrRange, -1)},
		{"n far below", sema(much), math.MinInt, fault(api.ErrRange, -1)},
		{"n one beyond MaxNum", sema(0), much + 1, fault(api.ErrRange, -1)},
		{"n one beyond MaxNum, ahead of much", sema(much), much + 1, fault(api.ErrRange, -1)},
		{"n far beyond", sema(much), math.MaxInt, fault(api.ErrRange, -1)},
		{"1 to MaxNum", sema(much), 1, fault(api.ErrMuch, 0)},
		{"MaxNum to 1", sema(1), much, fault(api.ErrMuch, 0)},
		{"MaxNum to MaxNum", sema(much), much, fault(api.ErrMuch, 0)},
		{"2 to MaxNum less one", sema(much - 1), 2, fault(api.ErrMuch, 0)},
		{"too much, some wait", sema(5, wants(3, 6), wants(2, 1)), much - 4, fault(api.ErrMuch, 0)},
		{"too much, though one wants it all", sema(much-1, wants(3, much)), 2, fault(api.ErrMuch, 0)},
	}
	for _, w := range wrongSemas() {
		for _, n := range []int{0, 1, much, -1, much + 1, math.MinInt} {
			rows = append(rows, row{w.what, w.s, n, w.want})
		}
	}
	for _, r := range rows {
		then, tasks, f := sync.Release(r.s, r.n)
		same(t, r.what, told(then, tasks, f), told(sema(0), []int{}, r.want))
	}
}
