package lock_test

import (
	"fmt"
	"math"
	"testing"

	"taskmill/api"
	"taskmill/lock"
)

// P7.3: the lock then, and who is admitted, of readers who leave.
func TestLeaveOfReader(t *testing.T) {
	line := []api.Want{writes(4), reads(9), reads(2), writes(1)}
	rows := []struct {
		what  string
		l     api.Lock
		then  api.Lock
		tasks []int
	}{
		{"the only one", read(1), free(), nil},
		{"one of two", read(2), read(1), nil},
		{"one of MaxNum", read(much), read(much - 1), nil},
		{"one of two, a writer waits", read(2, line[0]), read(1, line[0]), nil},
		{"one of two, several wait", read(2, line...), read(1, line...), nil},
		{"one of MaxNum, several wait", read(much, line...), read(much-1, line...), nil},
		{"the only one, a writer waits", read(1, line[0]), written(), []int{4}},
		{"the only one, two writers wait", read(1, line[0], line[3]), written(line[3]), []int{4}},
		{"the only one, several wait", read(1, line...), written(line[1:]...), []int{4}},
		{"the only one, the farthest waits", read(1, writes(math.MaxInt)), written(), []int{math.MaxInt}},
	}
	for _, r := range rows {
		then, tasks, panics, f := lock.Leave(r.l, false)
		same(t, r.what, fmt.Sprint(then, tasks, panics, f), fmt.Sprint(r.then, r.tasks, false, none))
	}
}

// P7.3: the lock then, and who is admitted, of a writer who leaves.
func TestLeaveOfWriter(t *testing.T) {
	w, v, a, b, c := writes(4), writes(6), reads(9), reads(2), reads(math.MaxInt)
	rows := []struct {
		what  string
		l     api.Lock
		then  api.Lock
		tasks []int
	}{
		{"nobody waits", written(), free(), nil},
		{"a reader waits", written(a), read(1), []int{9}},
		{"a writer waits", written(w), written(), []int{4}},
		{"two writers wait", written(w, v), written(v), []int{4}},
		{"a writer waits ahead of a reader", written(w, a), written(a), []int{4}},
		{"a writer waits ahead of readers and a writer", written(w, a, b, v), written(a, b, v), []int{4}},
		{"a reader waits ahead of a writer", written(a, w), read(1, w), []int{9}},
		{"a reader, a writer and a reader wait", written(a, w, b), read(1, w, b), []int{9}},
		{"readers wait", written(a, b, c), read(3), []int{9, 2, math.MaxInt}},
		{"readers wait ahead of a writer and a reader", written(a, b, w, c), read(2, w, c), []int{9, 2}},
		{"readers wait ahead of two writers", written(a, b, w, v), read(2, w, v), []int{9, 2}},
	}
	for _, r := range rows {
		then, tasks, panics, f := lock.Leave(r.l, true)
		same(t, r.what, fmt.Sprint(then, tasks, panics, f), fmt.Sprint(r.then, r.tasks, false, none))
	}
}

// P7.3: with none to leave nothing changes, and it panics.
func TestLeaveOfNone(t *testing.T) {
	rows := []struct {
		what  string
		l     api.Lock
		write bool
	}{
		{"a reader, the lock is free", free(), false},
		{"a writer, the lock is free", free(), true},
		{"a writer, one reader holds", read(1), true},
		{"a writer, MaxNum readers hold", read(much), true},
		{"a writer, readers hold and several wait", read(2, writes(3), reads(1)), true},
		{"a writer, one reader holds and a writer waits", read(1, writes(3)), true},
		{"a reader, a writer holds", written(), false},
		{"a reader, a writer holds and several wait", written(reads(3), writes(1), reads(2)), false},
		{"a reader, a writer holds and MaxList wait", written(many(1, most, false)...), false},
	}
	for _, r := range rows {
		then, tasks, panics, f := lock.Leave(r.l, r.write)
		same(t, r.what, fmt.Sprint(then, tasks, panics, f), fmt.Sprint(r.l, []int{}, true, none))
	}
}

// P7.3: as many as there may be; and what Check says.
func TestLeaveLimitsAndFaults(t *testing.T) {
	all, alone := many(1, most, false), many(1, most, true)
	then, tasks, panics, f := lock.Leave(written(all...), true)
	same(t, "MaxList readers", fmt.Sprint(then, tasks, panics, f), fmt.Sprint(read(most), upTo(1, most), false, none))
	then, tasks, panics, f = lock.Leave(written(alone...), true)
	same(t, "MaxList writers", fmt.Sprint(then, tasks, panics, f), fmt.Sprint(written(alone[1:]...), []int{1}, false, none))
	then, tasks, panics, f = lock.Leave(read(1, alone...), false)
	same(t, "MaxList writers behind a reader", fmt.Sprint(then, tasks, panics, f), fmt.Sprint(written(alone[1:]...), []int{1}, false, none))
	last := with(all, most-1, writes(most))
	then, tasks, panics, f = lock.Leave(written(last...), true)
	same(t, "the last of MaxList a writer", fmt.Sprint(then, tasks, panics, f), fmt.Sprint(read(most-1, writes(most)), upTo(1, most-1), false, none))
	for _, w := range wrongs() {
		for _, write := range []bool{false, true} {
			then, tasks, panics, f := lock.Leave(w.l, write)
			same(t, w.what, f, w.want)
			bare(t, w.what, then, tasks, panics)
		}
	}
}

// drop is a Drop, and what it answers.
type drop struct {
	what  string
	l     api.Lock
	task  int
	then  api.Lock
	tasks []int
}

func drops() []drop {
	w, v, a, b, c := writes(4), writes(6), reads(9), reads(2), reads(math.MaxInt)
	return []drop{
		{"the only one, behind a writer", written(a), 9, written(), nil},
		{"the only one, behind readers", read(2, w), 4, read(2), nil},
		{"the first, behind a writer", written(a, w, b), 9, written(w, b), nil},
		{"one between, behind a writer", written(a, w, b), 4, written(a, b), nil},
		{"the last, behind a writer", written(a, w, b), 2, written(a, w), nil},
		{"the first, ahead of a reader", read(2, w, a), 4, read(3), []int{9}},
		{"the first, ahead of readers", read(1, w, a, b, c), 4, read(4), []int{9, 2, math.MaxInt}},
		{"the first, ahead of readers and a writer", read(1, w, a, b, v, c), 4, read(3, v, c), []int{9, 2}},
		{"the first, ahead of a writer", read(1, w, v, a), 4, read(1, v, a), nil},
		{"one between, behind readers", read(1, w, a, v), 9, read(1, w, v), nil},
		{"a writer between, behind readers", read(1, w, v, a), 6, read(1, w, a), nil},
		{"the last, behind readers", read(1, w, a, c), math.MaxInt, read(1, w, a), nil},
		{"the only one, behind MaxNum readers", read(much, w), 4, read(much), nil},
		{"the first, ahead of the last reader that there may be", read(much-1, w, a, v), 4, read(much, v), []int{9}},
	}
}

// P7.4: the lock then, and who is admitted.
func TestDrop(t *testing.T) {
	for _, d := range drops() {
		then, tasks, f := lock.Drop(d.l, d.task)
		same(t, d.what, fmt.Sprint(then, tasks, f), fmt.Sprint(d.then, d.tasks, none))
	}
}

// P7.4: as many as there may be. Admitting asks nothing of MaxNum: there may be more readers then.
func TestDropLimits(t *testing.T) {
	all, alone := many(1, most, false), many(1, most, true)
	first := with(all, 0, writes(1))
	rows := []drop{
		{"the first of MaxList, behind a writer", written(all...), 1, written(all[1:]...), nil},
		{"the last of MaxList, behind a writer", written(all...), most, written(all[:most-1]...), nil},
		{"the last of MaxList, behind readers", read(much, alone...), most, read(much, alone[:most-1]...), nil},
		{"the first of MaxList, ahead of readers", read(1, first...), 1, read(most), upTo(2, most-1)},
		{"the first, ahead of one reader beyond MaxNum", read(much, writes(1), reads(2)), 1, read(much + 1), []int{2}},
		{"the first of MaxList, behind MaxNum readers", read(much, first...), 1, read(much + most - 1), upTo(2, most-1)},
	}
	for _, r := range rows {
		then, tasks, f := lock.Drop(r.l, r.task)
		same(t, r.what, fmt.Sprint(then, tasks, f), fmt.Sprint(r.then, r.tasks, none))
	}
}

// P7.4: each fault; what Check says is ahead of who doesn't wait.
func TestDropFaults(t *testing.T) {
	locks := []api.Lock{
		free(),
		read(2),
		written(),
		read(2, writes(1), reads(3)),
		written(reads(1), writes(3)),
		written(many(9, most, true)...),
	}
	for _, l := range locks {
		for _, task := range []int{2, 4, 0, -1, math.MinInt, math.MaxInt} {
			then, tasks, f := lock.Drop(l, task)
			same(t, fmt.Sprint("it doesn't wait: ", task), f, fault(api.ErrNone, 0))
			bare(t, "it doesn't wait", then, tasks, false)
		}
	}
	for _, w := range wrongs() { // whether the task waits or not
		for _, task := range []int{1, 9 * most, 0} {
			then, tasks, f := lock.Drop(w.l, task)
			same(t, w.what, f, w.want)
			bare(t, w.what, then, tasks, false)
		}
	}
}

// Many readers are admitted one after the other, and leave one by one, until the writer behind them is.
func TestManyReaders(t *testing.T) {
	l, _, _ := lock.Enter(api.Lock{}, 1, true, false)
	for task := 2; task <= most; task++ {
		l, _, _ = lock.Enter(l, task, task == most, false)
	}
	l, tasks, _, _ := lock.Leave(l, true)
	same(t, "admitted", fmt.Sprint(l, tasks), fmt.Sprint(read(most-2, writes(most)), upTo(2, most-2)))
	for left := most - 3; left > 0; left-- {
		then, tasks, panics, f := lock.Leave(l, false)
		same(t, "one leaves", fmt.Sprint(then, tasks, panics, f), fmt.Sprint(read(left, writes(most)), []int{}, false, none))
		l = then
	}
	l, tasks, panics, f := lock.Leave(l, false)
	same(t, "the last leaves", fmt.Sprint(l, tasks, panics, f), fmt.Sprint(written(), []int{most}, false, none))
}
