package linear_test

import (
	"fmt"
	"math/rand"
	"slices"
	"testing"

	"taskmill/api"
	"taskmill/linear"
)

// roomy lists have more behind their length, which nobody may read or write.
func roomy[T any](list []T, behind T) (short, whole []T) {
	whole = append(slices.Clone(list), behind, behind, behind)
	return whole[:len(list)], whole
}

// Lists that are handed in are only read, and what lies behind their length is neither read nor written.
func TestListsAreOnlyRead(t *testing.T) {
	r := rand.New(rand.NewSource(261))
	for range 3000 {
		kind := 1 + r.Intn(kindsCount)
		l := nearlyTrueCalls(r, kind, r.Intn(8))
		if r.Intn(10) == 0 && len(l) > 0 {
			l[r.Intn(len(l))].End = 0
		}
		order := r.Perm(len(l))
		_, want := linear.Find(kind, l)
		for _, behind := range []api.Call{{}, oneOf(kind), {Begin: -1, Kind: 9}} {
			short, whole := roomy(l, behind)
			shortOrder, wholeOrder := roomy(order, 99)
			before := fmt.Sprint(whole, wholeOrder)
			same(t, "check", linear.Check(kind, short), checkByTheWords(kind, l))
			found, f := linear.Find(kind, short)
			same(t, "find", f, want)
			same(t, "found", linear.Play(kind, short, found), playByTheWords(kind, l, found))
			same(t, "play", linear.Play(kind, short, shortOrder), playByTheWords(kind, l, order))
			same(t, "what was handed in", fmt.Sprint(whole, wholeOrder), before)
		}
	}
}

// What lies behind a list's length is no call, and no number of an order.
func TestBehindIsNothing(t *testing.T) {
	l := calls("0-9 put 1; 0-9 take 1; 0-9 take 7")
	same(t, "find", askSome(t, "find", aQueue, l[:2]), []int{0, 1})
	same(t, "play", linear.Play(aQueue, l[:2], []int{0, 1, 2}[:2]), none)
	same(t, "a call behind", linear.Play(aQueue, l[:2], []int{0, 2}), fault(api.ErrRange, 1))
	same(t, "a number behind", linear.Play(aQueue, l[:2], []int{0, 1}[:1]), fault(api.ErrSize, 0))
	askRight(t, "too many behind", aQueue, slices.Repeat(l[:1], mostCalls+1)[:mostCalls])
}

// nil and empty lists are the same.
func TestEmptyLists(t *testing.T) {
	for kind := 0; kind <= kindsCount+1; kind++ {
		want := none
		if kind < 1 || kind > kindsCount {
			want = fault(api.ErrKind, -1)
		}
		for _, l := range [][]api.Call{nil, {}, make([]api.Call, 0, 20)} {
			order, f := linear.Find(kind, l)
			same(t, "answers", told(linear.Check(kind, l), order, f), told(want, []int{}, want))
			for _, order := range [][]int{nil, {}, make([]int, 0, 20)} {
				same(t, "play", linear.Play(kind, l, order), want)
			}
		}
	}
}

// spoil writes over all the memory of a list, also behind its length.
func spoil[T any](list []T, with T) {
	whole := list[:cap(list)]
	for i := range whole {
		whole[i] = with
	}
}

// What is answered is new memory, and none is kept.
func TestAnswersAreNewMemory(t *testing.T) {
	r := rand.New(rand.NewSource(262))
	for range 2000 {
		kind := 1 + r.Intn(kindsCount)
		l := trueCalls(r, kind, r.Intn(mostCalls+1))
		given := fmt.Sprint(l)
		order := askSome(t, "order", kind, l)
		ahead := fmt.Sprint(order)
		spoil(askSome(t, "another one", kind, l), -9)
		same(t, "the answer ahead", fmt.Sprint(order), ahead)
		same(t, "what was handed in", fmt.Sprint(l), given)
		askSome(t, "the next answer", kind, l)
		spoil(l, api.Call{Begin: 99, Kind: 99})
		same(t, "the answer ahead, when what was handed in is changed", fmt.Sprint(order), ahead)
	}
}

// What is answered hangs on the arguments alone, not on what was asked ahead.
func TestNothingIsKept(t *testing.T) {
	l := calls("0-9 put 1; 0-9 take 1; 0-9 empty")
	for range 3 {
		askSome(t, "some", aQueue, l)
		askNone(t, "none", aQueue, l[1:])
		same(t, "of another kind", linear.Check(aCounter, l), fault(api.ErrKind, 0))
		same(t, "false", linear.Play(aQueue, l, []int{1, 0, 2}), fault(api.ErrFalse, 0))
		same(t, "right", linear.Play(aQueue, l, []int{2, 0, 1}), none)
		askSome(t, "a register", aRegister, calls("0-9 write 1; 0-9 read 0"))
		askNone(t, "a counter", aCounter, calls("0-9 inc 1 2; 0-9 inc 1 1; 0-9 inc 0 0; 0-9 inc 0 3"))
	}
}
