package lock_test

import (
	"fmt"
	"math"
	"testing"

	"taskmill/api"
	"taskmill/lock"
)

// The chapter's example.
func TestExample(t *testing.T) {
	l, in, f := lock.Enter(api.Lock{}, 1, true, false)
	same(t, "a writer enters", fmt.Sprint(l, in, f), "{0 true []} true {0 0}")
	l, in, f = lock.Enter(l, 2, false, false)
	same(t, "a reader", fmt.Sprint(l, in, f), "{0 true [{2 false 0}]} false {0 0}")
	l, in, f = lock.Enter(l, 3, true, false)
	same(t, "a writer", fmt.Sprint(l, in, f), "{0 true [{2 false 0} {3 true 0}]} false {0 0}")
	l, in, f = lock.Enter(l, 4, false, false)
	same(t, "and a reader wait", fmt.Sprint(l, in, f), "{0 true [{2 false 0} {3 true 0} {4 false 0}]} false {0 0}")
	l, tasks, panics, f := lock.Leave(l, true)
	same(t, "the writer leaves", fmt.Sprint(l, tasks, panics, f), "{1 false [{3 true 0} {4 false 0}]} [2] false {0 0}")
}

// P7.1: what is right has no fault.
func TestCheckRight(t *testing.T) {
	rows := []struct {
		what string
		l    api.Lock
	}{
		{"nothing", api.Lock{}},
		{"an empty line", api.Lock{Line: []api.Want{}}},
		{"a reader", read(1)},
		{"MaxNum readers, less one", read(much - 1)},
		{"MaxNum readers", read(much)},
		{"a writer", written()},
		{"a writer waits behind a reader", read(1, writes(1))},
		{"a writer waits behind MaxNum readers", read(much, writes(1))},
		{"a writer and readers wait behind readers", read(2, writes(1), reads(2), reads(3))},
		{"writers wait behind readers", read(2, writes(2), writes(1))},
		{"a reader waits behind a writer", written(reads(1))},
		{"readers wait behind a writer", written(reads(2), reads(1))},
		{"a writer waits behind a writer", written(writes(1))},
		{"several wait behind a writer", written(writes(7), reads(3), writes(4), reads(1))},
		{"the farthest task waits", written(reads(math.MaxInt), writes(1))},
		{"MaxList readers wait behind a writer", written(many(1, most, false)...)},
		{"MaxList writers wait behind a writer", written(many(1, most, true)...)},
		{"MaxList writers wait behind MaxNum readers", read(much, many(1, most, true)...)},
		{"MaxList wait, less one", written(many(1, most-1, false)...)},
	}
	for _, r := range rows {
		same(t, r.what, lock.Check(r.l), none)
	}
}

// P7.1: each fault, its place, and which is answered where several apply.
func TestCheckFaults(t *testing.T) {
	for _, w := range wrongs() {
		same(t, w.what, lock.Check(w.l), w.want)
	}
}

// P7.2: who can be admitted holds the lock, with try as without.
func TestEnterHolds(t *testing.T) {
	rows := []struct {
		what  string
		l     api.Lock
		write bool
		then  api.Lock
	}{
		{"a reader, the lock is free", free(), false, read(1)},
		{"a writer, the lock is free", free(), true, written()},
		{"a reader beside another one", read(1), false, read(2)},
		{"a reader beside others", read(7), false, read(8)},
		{"the last reader but one", read(much - 2), false, read(much - 1)},
		{"the last reader that there may be", read(much - 1), false, read(much)},
	}
	for _, r := range rows {
		for _, try := range []bool{false, true} {
			for _, task := range []int{1, 5, math.MaxInt} {
				then, holds, f := lock.Enter(r.l, task, r.write, try)
				same(t, fmt.Sprint(r.what, ", try ", try), fmt.Sprint(then, holds, f), fmt.Sprint(r.then, true, none))
			}
		}
	}
}

// P7.2: who can't be admitted comes to the end of Line, or, with try, leaves the lock as it was.
func TestEnterWaits(t *testing.T) {
	line := []api.Want{writes(4), reads(9), writes(2)}
	rows := []struct {
		what   string
		l      api.Lock
		reader bool // does a reader wait, too?
	}{
		{"one reader holds", read(1), false},
		{"readers hold", read(7), false},
		{"readers hold, all but one", read(much - 1), false},
		{"a writer holds", written(), true},
		{"a reader holds, a writer waits", read(1, line[0]), true},
		{"readers hold, several wait", read(7, line...), true},
		{"readers hold, a reader waits last", read(7, line[:2]...), true},
		{"a writer holds, a writer waits", written(line[0]), true},
		{"a writer holds, a reader waits", written(line[1]), true},
		{"a writer holds, several wait", written(line...), true},
	}
	for _, r := range rows {
		for _, write := range []bool{false, true} {
			if !write && !r.reader {
				continue
			}
			then, holds, f := lock.Enter(r.l, 3, write, false)
			want := r.l
			want.Line = append(append([]api.Want{}, r.l.Line...), api.Want{Task: 3, Write: write})
			same(t, fmt.Sprint(r.what, ", write ", write), fmt.Sprint(then, holds, f), fmt.Sprint(want, false, none))
			then, holds, f = lock.Enter(r.l, 3, write, true)
			same(t, fmt.Sprint(r.what, ", try, write ", write), fmt.Sprint(then, holds, f), fmt.Sprint(r.l, false, none))
		}
	}
}

// P7.2: tasks from 1 to the farthest, and as many as there may be.
func TestEnterLimits(t *testing.T) {
	all, alone := many(1, most, false), many(1, most, true)
	for _, task := range []int{1, math.MaxInt} {
		then, holds, f := lock.Enter(written(), task, true, false)
		same(t, "who waits", fmt.Sprint(then, holds, f), fmt.Sprint(written(writes(task)), false, none))
	}
	then, holds, f := lock.Enter(written(all[:most-1]...), most, false, false)
	same(t, "the last of MaxList, behind a writer", fmt.Sprint(then, holds, f), fmt.Sprint(written(all...), false, none))
	then, holds, f = lock.Enter(read(much-1, alone[:most-1]...), most, true, false)
	same(t, "the last of MaxList, behind readers", fmt.Sprint(then, holds, f), fmt.Sprint(read(much-1, alone...), false, none))
	then, holds, f = lock.Enter(written(all[:most-1]...), most, false, true)
	same(t, "the last of MaxList, with try", fmt.Sprint(then, holds, f), fmt.Sprint(written(all[:most-1]...), false, none))
}

// wrongEnter is a lock and a task that have a fault, with write and try as without.
type wrongEnter struct {
	what string
	l    api.Lock
	task int
	want api.Fault
}

func wrongEnters() []wrongEnter {
	behind, full := read(2, writes(3), reads(1), writes(2)), written(many(1, most, false)...)
	last := read(much, many(1, most, true)...)
	return []wrongEnter{
		{"task 0", free(), 0, fault(api.ErrRange, -1)},
		{"task -1", behind, -1, fault(api.ErrRange, -1)},
		{"the task far below", written(), math.MinInt, fault(api.ErrRange, -1)},
		{"the first who waits", behind, 3, fault(api.ErrTwice, -1)},
		{"one who waits between", behind, 1, fault(api.ErrTwice, -1)},
		{"the last who waits", behind, 2, fault(api.ErrTwice, -1)},
		{"the farthest who waits", written(reads(math.MaxInt)), math.MaxInt, fault(api.ErrTwice, -1)},
		{"MaxList wait, behind a writer", full, most + 1, fault(api.ErrMuch, 0)},
		{"MaxList wait, behind a reader", read(1, many(1, most, true)...), most + 1, fault(api.ErrMuch, 0)},
		{"MaxNum readers, nobody waits", read(much), 1, fault(api.ErrMuch, 0)},
		{"MaxNum readers, a writer waits", read(much, writes(1)), 2, fault(api.ErrMuch, 0)},
		{"MaxNum readers, MaxList wait", last, math.MaxInt, fault(api.ErrMuch, 0)},
		{"task 0 ahead of MaxList", full, 0, fault(api.ErrRange, -1)},
		{"task 0 ahead of MaxNum", read(much), 0, fault(api.ErrRange, -1)},
		{"it waits, ahead of MaxList", full, most, fault(api.ErrTwice, -1)},
		{"it waits, ahead of MaxNum", read(much, writes(1)), 1, fault(api.ErrTwice, -1)},
		{"it waits, ahead of both", last, 1, fault(api.ErrTwice, -1)},
	}
}

// P7.2: each fault, its place, and the order where several apply; what Check says is ahead of all.
func TestEnterFaults(t *testing.T) {
	rows := wrongEnters()
	for _, w := range wrongs() {
		for _, task := range []int{9 * most, 0, 1} {
			rows = append(rows, wrongEnter{fmt.Sprint(w.what, ", ahead of task ", task), w.l, task, w.want})
		}
	}
	for _, r := range rows {
		for _, write := range []bool{false, true} {
			for _, try := range []bool{false, true} {
				then, holds, f := lock.Enter(r.l, r.task, write, try)
				same(t, r.what, f, r.want)
				bare(t, r.what, then, nil, holds)
			}
		}
	}
}
