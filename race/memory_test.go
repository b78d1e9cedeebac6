package race_test

import (
	"fmt"
	"math/rand"
	"slices"
	"testing"

	"taskmill/api"
	"taskmill/race"
)

// roomy lists have more behind their length, which nobody may read or write.
func roomy[T any](list []T, behind T) (short, whole []T) {
	whole = append(slices.Clone(list), behind, behind, behind)
	return whole[:len(list)], whole
}

// Lists that are handed in are only read, and what lies behind their length is neither read nor written.
func TestListsAreOnlyRead(t *testing.T) {
	r := rand.New(rand.NewSource(161))
	for range 3000 {
		trace, pipes := anyTrace(r, r.Intn(20))
		if r.Intn(10) == 0 && len(trace) > 0 {
			trace[r.Intn(len(trace))].Task = 0
		}
		want := answers(trace, pipes)
		for _, behind := range []api.Event{{}, {Task: 64, Op: api.OpStore}, {Task: 1, Op: api.OpLoad, Obj: 20}} {
			short, whole := roomy(trace, behind)
			shortPipes, wholePipes := roomy(pipes, 101*r.Intn(2))
			before := fmt.Sprint(whole, wholePipes)
			same(t, "the answers", answers(short, shortPipes), want)
			same(t, "what was handed in", fmt.Sprint(whole, wholePipes), before)
		}
	}
}

// What lies behind a list's length is no event, and no pipe.
func TestBehindIsNothing(t *testing.T) {
	trace := events("1 store; 2 store; 3 store 5")
	same(t, "all", allTold(t, trace[:1], nil), "")
	askFirst(t, "of one", trace[:1], nil, -1)
	same(t, "guards", guardsTold(t, trace[:2], nil), cells(1))
	_, f := race.All(events("1 shut 1"), []int{0, 0}[:1])
	same(t, "a pipe behind", f, fault(api.ErrForm, 0))
	same(t, "too many behind", allTold(t, many(mostEvents+1, "1 store")[:mostEvents], make([]int, mostPipes+1)[:mostPipes]), "")
}

// nil and empty lists are the same.
func TestEmptyLists(t *testing.T) {
	want := told([][2]int{}, none, 0, fault(api.ErrNone, 0), [][]int{}, none, 0)
	for _, trace := range [][]api.Event{nil, {}} {
		for _, pipes := range [][]int{nil, {}, {0}} {
			same(t, "answers", answers(trace, pipes), want)
		}
	}
	trace := events("1 store; 2 store")
	same(t, "no pipes", answers(trace, nil), answers(trace, []int{}))
}

// spoil writes over all the memory of a list, also behind its length.
func spoil[T any](list []T, with T) {
	whole := list[:cap(list)]
	for i := range whole {
		whole[i] = with
	}
}

// What is answered is new memory, no two lists of one answer share any, and none is kept.
func TestAnswersAreNewMemory(t *testing.T) {
	r := rand.New(rand.NewSource(162))
	for range 500 {
		trace, pipes := anyTrace(r, r.Intn(30))
		given, want := fmt.Sprint(trace, pipes), answers(trace, pipes)
		pairs, _ := race.All(trace, pipes)
		guards := guardsTold(t, trace, pipes)
		ahead := fmt.Sprint(pairs, guards)
		morePairs, _ := race.All(trace, pipes)
		moreGuards := guardsTold(t, trace, pipes)
		spoil(morePairs, [2]int{-9, -9})
		for at := range slices.Backward(moreGuards) { // backward, so that what lies behind one's length would spoil those behind it
			spoil(moreGuards[at], 100+at)
		}
		for at := range moreGuards {
			same(t, "each cell's locks are spoilt alone", moreGuards[at], slices.Repeat([]int{100 + at}, len(guards[at])))
		}
		spoil(moreGuards, nil)
		same(t, "the answers ahead", fmt.Sprint(pairs, guards), ahead)
		same(t, "what was handed in", fmt.Sprint(trace, pipes), given)
		same(t, "the next answers", answers(trace, pipes), want)
		spoil(trace, api.Event{Task: 99, Op: 99})
		spoil(pipes, 99)
		same(t, "the answers ahead, when what was handed in is changed", fmt.Sprint(pairs, guards), ahead)
	}
}

// What is answered hangs on the arguments alone, not on what was asked ahead.
func TestNothingIsKept(t *testing.T) {
	held := events("1 lock 0 1; 1 store; 1 unlock 0 1; 2 lock 0 1; 2 store; 2 unlock 0 1")
	for range 3 {
		same(t, "held", answers(held, nil), told([][2]int{}, none, 0, fault(api.ErrNone, 0), [][]int{{0}}, none, 1))
		same(t, "the second one alone", guardsTold(t, held[4:], nil), cells(1))
		same(t, "a fault", answers(make([]api.Event, 1), nil), told([][2]int{}, fault(api.ErrRange, 0), 0, fault(api.ErrRange, 0), [][]int{}, fault(api.ErrRange, 0), 0))
		same(t, "two stores", allTold(t, events("1 store; 2 store"), nil), "0-1")
		same(t, "one of them", allTold(t, events("2 store"), nil), "")
	}
}
