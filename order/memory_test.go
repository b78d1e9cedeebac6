package order_test

import (
	"fmt"
	"math/rand"
	"slices"
	"testing"

	"taskmill/api"
	"taskmill/order"
)

// roomy lists have more behind their length, which nobody may read or write.
func roomy[T any](list []T, behind T) (short, whole []T) {
	whole = append(slices.Clone(list), behind, behind, behind)
	return whole[:len(list)], whole
}

// answers are what all calls answer of a trace, told.
func answers(trace []api.Event, pipes []int) string {
	clocks, f := order.Clocks(trace, pipes)
	is, g := order.Before(trace, pipes, 0, len(trace)-1)
	return told(order.Check(trace, pipes), clocks, f, is, g)
}

// Lists that are handed in are only read, and what lies behind their length is neither read nor written.
func TestListsAreOnlyRead(t *testing.T) {
	r := rand.New(rand.NewSource(161))
	for range 3000 {
		trace, pipes := anyTrace(r, r.Intn(20))
		if r.Intn(10) == 0 && len(trace) > 0 {
			trace[r.Intn(len(trace))].Task = 0
		}
		want := answers(trace, pipes)
		for _, behind := range []api.Event{{}, {Task: 64, Op: api.OpWait}, {Task: 1, Op: api.OpGo, Value: 64}} {
			short, whole := roomy(trace, behind)
			shortPipes, wholePipes := roomy(pipes, 101*r.Intn(2))
			before := fmt.Sprint(whole, wholePipes)
			same(t, "the answers", answers(short, shortPipes), want)
			same(t, "what was handed in", fmt.Sprint(whole, wholePipes), before)
		}
	}
}

// What lies behind a list's length is no event, and no pipe.
func TestBehindIsNothing(t *testing.T) {
	trace := events("1 print; 2 print; 3 print")[:2]
	same(t, "clocks", clocksTold(t, trace, nil), "[[1 0] [0 1]]")
	_, f := order.Before(trace, nil, 0, 2)
	same(t, "an event behind", f, fault(api.ErrRange, -1))
	same(t, "a pipe behind", order.Check(events("1 shut 1"), []int{0, 0}[:1]), fault(api.ErrForm, 0))
	same(t, "a wrong pipe behind", order.Check(events("1 shut 0"), []int{0, -1}[:1]), none)
	same(t, "too many behind", order.Check(prints(mostEvents + 1)[:mostEvents], make([]int, mostPipes+1)[:mostPipes]), none)
}

// nil and empty lists are the same.
func TestEmptyLists(t *testing.T) {
	for _, trace := range [][]api.Event{nil, {}} {
		for _, pipes := range [][]int{nil, {}, {0}} {
			clocks, f := order.Clocks(trace, pipes)
			same(t, "clocks", told(clocks, f), told([][]int{}, none))
			is, f := order.Before(trace, pipes, 0, 0)
			same(t, "before", told(is, f), told(false, fault(api.ErrRange, -1)))
		}
	}
	same(t, "no pipes", pairsOf(t, events("1 unlock 0 1; 2 lock 0 1"), nil), pairsOf(t, events("1 unlock 0 1; 2 lock 0 1"), []int{}))
}

// spoil writes over all the memory of a list, also behind its length.
func spoil[T any](list []T, with T) {
	whole := list[:cap(list)]
	for i := range whole {
		whole[i] = with
	}
}

// What is answered is new memory, no two lists of one answer share any, and none is kept.
func TestAnswersAreNewMemory(t *testing.T) {
	r := rand.New(rand.NewSource(162))
	for range 300 {
		trace, pipes := anyTrace(r, r.Intn(20))
		given := fmt.Sprint(trace, pipes)
		ahead := clocksTold(t, trace, pipes)
		want := fmt.Sprint(ahead)
		one := clocksTold(t, trace, pipes)
		for at := range slices.Backward(one) { // backward, so that what lies behind one's length would spoil those behind it
			spoil(one[at], 100+at)
		}
		for at := range one {
			same(t, "each clock is spoilt alone", one[at], slices.Repeat([]int{100 + at}, len(ahead[at])))
		}
		spoil(one, nil)
		same(t, "the answer ahead", ahead, want)
		same(t, "what was handed in", fmt.Sprint(trace, pipes), given)
		same(t, "the next answer", clocksTold(t, trace, pipes), want)
		spoil(trace, api.Event{Task: 99, Op: 99})
		spoil(pipes, 99)
		same(t, "the answer ahead, when what was handed in is changed", ahead, want)
	}
}

// What is answered hangs on the arguments alone, not on what was asked ahead.
func TestNothingIsKept(t *testing.T) {
	handed := events("1 store 0 5; 1 send; 2 get; 2 load 0 5")
	for range 3 {
		same(t, "handed on", clocksTold(t, handed, []int{1}), "[[1 0] [2 0] [2 1] [2 2]]")
		same(t, "the get alone", clocksTold(t, handed[2:], []int{1}), "[[0 1] [0 2]]")
		same(t, "a fault", order.Check(handed, nil), fault(api.ErrForm, 1))
		same(t, "a wait alone", clocksTold(t, events("2 wait"), nil), "[[0 1]]")
		same(t, "a count", clocksTold(t, events("1 count; 2 wait"), nil), "[[1 0] [1 1]]")
		same(t, "a lock alone", clocksTold(t, events("2 lock 0 1; 1 unlock 0 1"), nil), "[[0 1] [1 0]]")
	}
}
