package lock_test

import (
	"fmt"
	"math"
	"slices"
	"testing"

	"taskmill/api"
)

const (
	most = api.MaxList
	much = api.MaxNum
)

func fault(code, at int) api.Fault { return api.Fault{Code: code, At: at} }

var none = api.Fault{}

// reads is a task that waits to read, writes one that waits to write.
func reads(task int) api.Want  { return api.Want{Task: task} }
func writes(task int) api.Want { return api.Want{Task: task, Write: true} }

// many are n who wait to read, or to write: the tasks first, first + 1, and so on.
func many(first, n int, write bool) []api.Want {
	list := make([]api.Want, n)
	for i := range list {
		list[i] = api.Want{Task: first + i, Write: write}
	}
	return list
}

// free is a lock that nobody holds, read one that readers hold, written one that a writer holds.
func free(line ...api.Want) api.Lock              { return api.Lock{Line: line} }
func read(readers int, line ...api.Want) api.Lock { return api.Lock{Readers: readers, Line: line} }
func written(line ...api.Want) api.Lock           { return api.Lock{Writer: true, Line: line} }

// both is a lock that readers and a writer hold at once.
func both(readers int, line ...api.Want) api.Lock {
	return api.Lock{Readers: readers, Writer: true, Line: line}
}

// with is the new list with another one at the place i.
func with(list []api.Want, i int, other api.Want) []api.Want {
	list = slices.Clone(list)
	list[i] = other
	return list
}

// upTo is the list of first, first + 1, and so on, n numbers in all.
func upTo(first, n int) []int {
	list := make([]int, n)
	for i := range list {
		list[i] = first + i
	}
	return list
}

// same holds two things against each other as they are told: nil and empty lists are the same.
func same(t *testing.T, what string, got, want any) {
	t.Helper()
	g, w := fmt.Sprint(got), fmt.Sprint(want)
	if g == w {
		return
	}
	if len(g)+len(w) > 2000 {
		t.Errorf("%s: not as wanted (%d and %d bytes)", what, len(g), len(w))
		return
	}
	t.Errorf("%s: got %v, want %v", what, g, w)
}

// bare asks that nothing stands beside a fault.
func bare(t *testing.T, what string, l api.Lock, tasks []int, told bool) {
	t.Helper()
	same(t, what+": beside the fault", fmt.Sprint(l, tasks, told), fmt.Sprint(api.Lock{}, []int{}, false))
}

// wrongLock is a lock of which Check says something, and what it says.
type wrongLock struct {
	what string
	l    api.Lock
	want api.Fault
}

func wrongs() []wrongLock {
	return slices.Concat(wrongCounts(), wrongForms(), wrongWants(), wrongTwofold(), wrongInTurn())
}

func wrongCounts() []wrongLock {
	return []wrongLock{
		{"one too many waits, behind a writer", written(many(1, most+1, false)...), fault(api.ErrMany, 0)},
		{"one too many waits, behind readers", read(1, many(1, most+1, true)...), fault(api.ErrMany, 0)},
		{"far too many wait", written(many(1, 3*most, true)...), fault(api.ErrMany, 0)},
		{"Readers -1", read(-1), fault(api.ErrRange, 0)},
		{"Readers far below", read(math.MinInt), fault(api.ErrRange, 0)},
		{"Readers one beyond MaxNum", read(much + 1), fault(api.ErrRange, 0)},
		{"Readers one beyond MaxNum, a writer waits", read(much+1, writes(1)), fault(api.ErrRange, 0)},
		{"Readers far beyond", read(math.MaxInt, writes(1)), fault(api.ErrRange, 0)},
	}
}

func wrongForms() []wrongLock {
	return []wrongLock{
		{"a writer and a reader", both(1), fault(api.ErrForm, 0)},
		{"a writer and readers", both(7, writes(1)), fault(api.ErrForm, 0)},
		{"a writer and MaxNum readers", both(much), fault(api.ErrForm, 0)},
		{"a reader waits, the lock is free", free(reads(1)), fault(api.ErrForm, 0)},
		{"a writer waits, the lock is free", free(writes(1)), fault(api.ErrForm, 0)},
		{"readers wait, the lock is free", free(reads(1), reads(2)), fault(api.ErrForm, 0)},
		{"a reader waits first, the lock is free", free(reads(1), writes(2)), fault(api.ErrForm, 0)},
		{"a writer waits first, the lock is free", free(writes(1), reads(2)), fault(api.ErrForm, 0)},
		{"a reader waits behind a reader who holds", read(1, reads(1)), fault(api.ErrForm, 0)},
		{"a reader waits first behind readers who hold", read(5, reads(1), writes(2)), fault(api.ErrForm, 0)},
		{"a reader waits behind MaxNum readers", read(much, reads(1)), fault(api.ErrForm, 0)},
		{"MaxList readers wait, the lock is free", free(many(1, most, false)...), fault(api.ErrForm, 0)},
		{"MaxList writers wait, the lock is free", free(many(1, most, true)...), fault(api.ErrForm, 0)},
	}
}

func wrongWants() []wrongLock {
	all, alone := many(1, most, false), many(1, most, true)
	return []wrongLock{
		{"task 0", written(reads(0)), fault(api.ErrRange, 1)},
		{"task -1", read(1, writes(3), writes(-1)), fault(api.ErrRange, 2)},
		{"a task far below", written(reads(3), writes(2), reads(math.MinInt), reads(0)), fault(api.ErrRange, 3)},
		{"the last task of MaxList", written(with(all, most-1, reads(0))...), fault(api.ErrRange, most)},
		{"the last writer of MaxList", read(1, with(alone, most-1, writes(0))...), fault(api.ErrRange, most)},
		{"a task just ahead", written(reads(4), reads(4)), fault(api.ErrTwice, 2)},
		{"a task ahead, to read and to write", written(reads(4), writes(2), reads(7), writes(4), reads(1)), fault(api.ErrTwice, 4)},
		{"a task ahead, to write and to read", read(2, writes(4), reads(4)), fault(api.ErrTwice, 2)},
		{"the farthest task ahead", written(writes(math.MaxInt), reads(1), writes(math.MaxInt)), fault(api.ErrTwice, 3)},
		{"the last of MaxList is the first", written(with(all, most-1, reads(1))...), fault(api.ErrTwice, most)},
		{"N of 1", written(api.Want{Task: 1, N: 1}), fault(api.ErrForm, 1)},
		{"N of -1", read(1, writes(1), api.Want{Task: 2, N: -1}), fault(api.ErrForm, 2)},
		{"N far below", read(1, writes(1), reads(3), api.Want{Task: 2, Write: true, N: math.MinInt}, reads(4)), fault(api.ErrForm, 3)},
		{"N of the last of MaxList", written(with(all, most-1, api.Want{Task: most, N: math.MaxInt})...), fault(api.ErrForm, most)},
	}
}

// wrongTwofold are locks of which more than one thing is wrong, as a whole or in Line: what is named first is told.
func wrongTwofold() []wrongLock {
	lots := many(0, most+1, false)
	return []wrongLock{
		{"many, ahead of Readers and form", both(-1, lots...), fault(api.ErrMany, 0)},
		{"many, ahead of Readers beyond", read(much+1, lots...), fault(api.ErrMany, 0)},
		{"many, ahead of a writer and readers", both(1, lots...), fault(api.ErrMany, 0)},
		{"many, ahead of one who would be let in", free(lots...), fault(api.ErrMany, 0)},
		{"Readers below, ahead of one who would be let in", read(-1, reads(0)), fault(api.ErrRange, 0)},
		{"Readers beyond, ahead of one who would be let in", read(much+1, reads(1), reads(1)), fault(api.ErrRange, 0)},
		{"Readers beyond, ahead of a writer and readers", both(much+1, writes(0)), fault(api.ErrRange, 0)},
		{"Readers below, beside a writer", both(-1), fault(api.ErrRange, 0)},
		{"Readers below, ahead of a task 0", both(math.MinInt, reads(0)), fault(api.ErrRange, 0)},
		{"a writer and readers, ahead of a task 0", both(1, reads(0)), fault(api.ErrForm, 0)},
		{"a writer and readers, ahead of a task twice", both(1, writes(3), writes(3)), fault(api.ErrForm, 0)},
		{"one who would be let in, ahead of its task 0", free(reads(0)), fault(api.ErrForm, 0)},
		{"one who would be let in, ahead of its task below 0", read(3, reads(-1), writes(2)), fault(api.ErrForm, 0)},
		{"one who would be let in, ahead of a task twice", free(writes(3), writes(3)), fault(api.ErrForm, 0)},
		{"one who would be let in, ahead of N", free(api.Want{Task: 1, Write: true, N: 1}), fault(api.ErrForm, 0)},
	}
}

// wrongInTurn are locks with more than one thing wrong with those who wait: the first one's is told, and of it what is named first.
func wrongInTurn() []wrongLock {
	return []wrongLock{
		{"task 0 ahead of its N", written(api.Want{Task: 0, N: 1}), fault(api.ErrRange, 1)},
		{"task 0 ahead of another task 0", written(reads(0), reads(0)), fault(api.ErrRange, 1)},
		{"a task twice, ahead of its N", read(1, writes(1), api.Want{Task: 1, N: 1}), fault(api.ErrTwice, 2)},
		{"N, ahead of a later task 0", written(api.Want{Task: 1, N: 1}, reads(0)), fault(api.ErrForm, 1)},
		{"N, ahead of a later task twice", written(api.Want{Task: 1, N: 1}, reads(1)), fault(api.ErrForm, 1)},
		{"a task twice, ahead of a later task 0", written(reads(1), reads(1), reads(0)), fault(api.ErrTwice, 2)},
		{"a task twice, ahead of a later N", written(reads(1), reads(1), api.Want{Task: 2, N: 1}), fault(api.ErrTwice, 2)},
		{"task 0, ahead of a later task twice", written(reads(1), reads(0), reads(1)), fault(api.ErrRange, 2)},
		{"task 0, ahead of a later N", written(reads(0), api.Want{Task: 1, N: 1}), fault(api.ErrRange, 1)},
	}
}
