package linear_test

import (
	"fmt"
	"slices"
	"testing"

	"taskmill/api"
	"taskmill/linear"
)

// playedAs is an order of calls, and what Play says of it.
type playedAs struct {
	what  string
	kind  int
	text  string
	order []int
	want  api.Fault
}

func askPlay(t *testing.T, list []playedAs) {
	t.Helper()
	for _, c := range list {
		l := calls(c.text)
		same(t, c.what, linear.Play(c.kind, l, c.order), c.want)
		same(t, c.what+", by the words", playByTheWords(c.kind, l, c.order), c.want)
	}
}

// P15.3: an order with numbers too few, and too many.
func TestPlaySize(t *testing.T) {
	const text = "0-1 inc 1 1; 2-3 inc 1 2; 4-5 inc 1 3"
	askPlay(t, []playedAs{
		{"just as many", aCounter, text, []int{0, 1, 2}, none},
		{"none", aCounter, text, nil, fault(api.ErrSize, 0)},
		{"one too few", aCounter, text, []int{0, 1}, fault(api.ErrSize, 0)},
		{"one too many", aCounter, text, []int{0, 1, 2, 3}, fault(api.ErrSize, 0)},
		{"one too many, ahead of one that is there twice", aCounter, text, []int{0, 1, 2, 2}, fault(api.ErrSize, 0)},
		{"too few, ahead of one of no call", aCounter, text, []int{-1, 9}, fault(api.ErrSize, 0)},
		{"too few, ahead of a call that is too soon", aCounter, text, []int{2, 0}, fault(api.ErrSize, 0)},
		{"too few, ahead of a call that is false", aCounter, "0-9 inc 1 7; 0-9 inc 1 1", []int{0}, fault(api.ErrSize, 0)},
		{"no calls", aCounter, "", nil, none},
		{"no calls, an empty order", aQueue, "", []int{}, none},
		{"no calls, and a number", aRegister, "", []int{0}, fault(api.ErrSize, 0)},
		{"one call", aQueue, "0-1 put 1", []int{0}, none},
		{"one call, no number", aQueue, "0-1 put 1", nil, fault(api.ErrSize, 0)},
	})
	same(t, "very many", linear.Play(aCounter, calls(text), make([]int, api.MaxList+1)), fault(api.ErrSize, 0))
	l := all(mostCalls, "inc 1 0", func(n int, c *api.Call) { c.Ret = n + 1 })
	for many := range mostCalls + 3 {
		want := fault(api.ErrSize, 0)
		if many == mostCalls {
			want = none
		}
		same(t, fmt.Sprint(many), linear.Play(aCounter, l, upTo(many)), want)
	}
}

// P15.3: a number that is none of a call, at each place, ahead of whatever is wrong behind it.
func TestPlayRange(t *testing.T) {
	l := calls("0-1 inc 1 1; 2-3 inc 1 2; 4-5 inc 1 3; 6-7 inc 1 4")
	for _, n := range append(far(), len(l), len(l)+1, mostCalls, 63, 64, 65, 1<<32+3) {
		for at := range l {
			order := upTo(len(l))
			order[at] = n
			same(t, fmt.Sprint(n, " at ", at), linear.Play(aCounter, l, order), fault(api.ErrRange, at))
			for behind := at + 1; behind < len(l); behind++ {
				for _, other := range []int{0, n, len(l) - 1, -7} {
					order[behind] = other
					same(t, fmt.Sprint(n, " first of ", order), linear.Play(aCounter, l, order), fault(api.ErrRange, at))
				}
			}
		}
	}
	askPlay(t, []playedAs{
		{"behind one that is there twice", aQueue, "0-9 put 1; 0-9 put 2; 0-9 put 3", []int{0, 0, 3}, fault(api.ErrTwice, 1)},
		{"behind a call that is too soon", aQueue, "0-1 put 1; 2-3 put 2; 0-9 put 3", []int{1, -1, 0}, fault(api.ErrState, 0)},
		{"behind a call that is false", aQueue, "0-9 put 1; 0-9 take 2; 0-9 put 3", []int{0, 1, 3}, fault(api.ErrFalse, 1)},
	})
}

// P15.3: a number that is there twice, ahead of ErrState and ErrFalse at its place.
func TestPlayTwice(t *testing.T) {
	askPlay(t, []playedAs{
		{"at 1", aQueue, "0-9 put 1; 0-9 put 2; 0-9 put 3", []int{0, 0, 1}, fault(api.ErrTwice, 1)},
		{"at 2", aQueue, "0-9 put 1; 0-9 put 2; 0-9 put 3", []int{2, 1, 2}, fault(api.ErrTwice, 2)},
		{"next to each other", aQueue, "0-9 put 1; 0-9 put 2; 0-9 put 3", []int{2, 1, 1}, fault(api.ErrTwice, 2)},
		{"the first of two", aQueue, "0-9 put 1; 0-9 put 2; 0-9 put 3", []int{1, 1, 1}, fault(api.ErrTwice, 1)},
		{"0 at 0 is not there ahead", aQueue, "0-9 put 1", []int{0}, none},
		{"a call that would be false the second time", aCounter, "0-9 inc 1 1; 0-9 inc 1 2", []int{0, 0}, fault(api.ErrTwice, 1)},
		{"a call that would be true the second time", aRegister, "0-9 read 0; 0-9 write 1", []int{0, 0}, fault(api.ErrTwice, 1)},
		{"ahead of one that is too soon", aQueue, "0-1 put 1; 2-3 put 2; 4-5 put 3", []int{0, 0, 2}, fault(api.ErrTwice, 1)},
		{"behind one that is too soon", aQueue, "0-1 put 1; 2-3 put 2; 4-5 put 3", []int{0, 2, 2}, fault(api.ErrState, 1)},
		{"behind one that is false", aCounter, "0-9 inc 1 1; 0-9 inc 1 3; 0-9 inc 1 2", []int{0, 1, 1}, fault(api.ErrFalse, 1)},
	})
	l := all(mostCalls, "put 1", func(int, *api.Call) {})
	for at := 1; at < mostCalls; at++ {
		for ahead := range at {
			order := upTo(mostCalls)
			order[at] = ahead
			same(t, fmt.Sprint(order), linear.Play(aQueue, l, order), fault(api.ErrTwice, at))
		}
	}
}

// P15.3: a call is done while one that is not done yet ended ahead of its Begin.
func TestPlayState(t *testing.T) {
	askPlay(t, []playedAs{
		{"at 0", aQueue, "0-1 put 1; 2-3 put 2", []int{1, 0}, fault(api.ErrState, 0)},
		{"in order", aQueue, "0-1 put 1; 2-3 put 2", []int{0, 1}, none},
		{"a Begin that is just the other one's End", aQueue, "0-2 put 1; 2-3 put 2", []int{1, 0}, none},
		{"a Begin one above the other one's End", aQueue, "0-2 put 1; 3-4 put 2", []int{1, 0}, fault(api.ErrState, 0)},
		{"an End that is just the other one's Begin", aQueue, "2-3 put 1; 0-2 put 2", []int{0, 1}, none},
		{"inside the other one", aQueue, "0-9 put 1; 3-4 put 2", []int{1, 0}, none},
		{"around the other one", aQueue, "3-4 put 1; 0-9 put 2", []int{1, 0}, none},
		{"at 1", aQueue, "0-9 put 1; 2-3 put 2; 4-5 put 3", []int{0, 2, 1}, fault(api.ErrState, 1)},
		{"by the last one alone", aQueue, "5-9 put 1; 5-9 put 2; 0-4 put 3", []int{0, 1, 2}, fault(api.ErrState, 0)},
		{"at the first place where it is so", aQueue, "4-5 put 1; 2-3 put 2; 0-1 put 3", []int{0, 1, 2}, fault(api.ErrState, 0)},
		{"who is too late is not told", aQueue, "0-1 put 1; 0-9 put 2; 2-3 put 3", []int{1, 2, 0}, fault(api.ErrState, 1)},
		{"ahead of what it tells", aQueue, "0-1 put 1; 2-3 take 7", []int{1, 0}, fault(api.ErrState, 0)},
		{"ahead of what it tells, where it is true then", aQueue, "0-1 put 1; 2-3 empty", []int{1, 0}, fault(api.ErrState, 0)},
		{"behind one that is false", aQueue, "0-9 take 1; 0-1 put 1; 2-3 put 2", []int{0, 2, 1}, fault(api.ErrFalse, 0)},
		{"far", aQueue, "0-999999998 put 1; 999999999-1000000000 put 2", []int{1, 0}, fault(api.ErrState, 0)},
		{"far, and just", aQueue, "0-999999999 put 1; 999999999-1000000000 put 2", []int{1, 0}, none},
	})
}

// P15.3: a call that does not tell what it should, at the first place where it is so.
func TestPlayFalse(t *testing.T) {
	askPlay(t, []playedAs{
		{"a queue: takes of none", aQueue, "0-9 take 1; 0-9 put 1", []int{0, 1}, fault(api.ErrFalse, 0)},
		{"a queue: takes 0 of none", aQueue, "0-9 take 0; 0-9 put 0", []int{0, 1}, fault(api.ErrFalse, 0)},
		{"a queue: takes what is there", aQueue, "0-9 take 1; 0-9 put 1", []int{1, 0}, none},
		{"a queue: takes the last one", aQueue, "0-9 put 1; 0-9 put 2; 0-9 take 2", []int{0, 1, 2}, fault(api.ErrFalse, 2)},
		{"a queue: takes the first one", aQueue, "0-9 put 1; 0-9 put 2; 0-9 take 1", []int{0, 1, 2}, none},
		{"a queue: takes what was taken", aQueue, "0-9 put 1; 0-9 take 1; 0-9 take 1; 0-9 put 2", []int{0, 1, 3, 2}, fault(api.ErrFalse, 3)},
		{"a queue: finds none", aQueue, "0-9 put 1; 0-9 take 1; 0-9 empty", []int{0, 1, 2}, none},
		{"a queue: finds none, where one is", aQueue, "0-9 put 1; 0-9 take 1; 0-9 empty", []int{0, 2, 1}, fault(api.ErrFalse, 1)},
		{"a queue: finds none, where 0 is", aQueue, "0-9 put 0; 0-9 empty", []int{0, 1}, fault(api.ErrFalse, 1)},
		{"a queue: what finds none changes nothing", aQueue, "0-9 empty; 0-9 put 4; 0-9 take 4; 0-9 empty", []int{3, 0, 1, 2}, none},
		{"a queue: the last call", aQueue, "0-9 put 1; 0-9 put 2; 0-9 take 1; 0-9 take 1", []int{0, 1, 2, 3}, fault(api.ErrFalse, 3)},
		{"a register: reads 1 at first", aRegister, "0-9 read 1; 0-9 write 1", []int{0, 1}, fault(api.ErrFalse, 0)},
		{"a register: reads what was written last", aRegister, "0-9 write 1; 0-9 write 2; 0-9 read 2; 0-9 read 2", []int{0, 1, 3, 2}, none},
		{"a register: reads what was written ahead of that", aRegister, "0-9 write 1; 0-9 write 2; 0-9 read 1", []int{0, 1, 2}, fault(api.ErrFalse, 2)},
		{"a register: cas does not find Old", aRegister, "0-9 write 1; 0-9 cas 0 2", []int{0, 1}, fault(api.ErrFalse, 1)},
		{"a register: cas finds Old", aRegister, "0-9 write 1; 0-9 cas 1 2; 0-9 read 2", []int{0, 1, 2}, none},
		{"a register: cas finds Arg, and not Old", aRegister, "0-9 write 1; 0-9 cas 2 1", []int{0, 1}, fault(api.ErrFalse, 1)},
		{"a register: cas fails, but finds Old", aRegister, "0-9 write 1; 0-9 fail 1 2", []int{0, 1}, fault(api.ErrFalse, 1)},
		{"a register: cas fails", aRegister, "0-9 write 1; 0-9 fail 0 2; 0-9 read 1", []int{0, 1, 2}, none},
		{"a register: cas that fails writes nothing", aRegister, "0-9 write 1; 0-9 fail 0 2; 0-9 read 2", []int{0, 1, 2}, fault(api.ErrFalse, 2)},
		{"a counter: the sum", aCounter, "0-9 inc 2 5; 0-9 inc 3 3", []int{1, 0}, none},
		{"a counter: not the sum yet", aCounter, "0-9 inc 2 5; 0-9 inc 3 3", []int{0, 1}, fault(api.ErrFalse, 0)},
		{"a counter: what was there", aCounter, "0-9 inc 2 2; 0-9 inc 3 2", []int{0, 1}, fault(api.ErrFalse, 1)},
		{"a counter: what is added alone", aCounter, "0-9 inc 2 2; 0-9 inc 3 3", []int{0, 1}, fault(api.ErrFalse, 1)},
		{"a counter: wraps", aCounter, "0-9 inc 9223372036854775807 9223372036854775807; 0-9 inc 1 -9223372036854775808", []int{0, 1}, none},
		{"the first of several", aCounter, "0-9 inc 1 1; 0-9 inc 1 1; 0-9 inc 1 1", []int{2, 1, 0}, fault(api.ErrFalse, 1)},
		{"a call that would be linear elsewhere", aRegister, "0-9 read 0; 0-9 write 1", []int{1, 0}, fault(api.ErrFalse, 1)},
	})
}

// P15.3: all orders, and all lists of as many numbers, of few calls: what the document's words say.
func TestPlayAllLists(t *testing.T) {
	for _, c := range []struct {
		kind int
		text string
	}{
		{aQueue, "0-2 put 1; 1-3 put 2; 4-5 take 2; 3-6 empty"},
		{aRegister, "0-2 write 1; 1-3 cas 0 2; 4-5 read 1; 3-6 fail 1 0"},
		{aCounter, "0-2 inc 1 3; 1-3 inc 2 2; 4-5 inc 0 3; 3-6 inc -1 2"},
	} {
		l, codes := calls(c.text), map[int]int{}
		var ask func(order []int)
		ask = func(order []int) {
			want := playByTheWords(c.kind, l, order)
			same(t, fmt.Sprint(c.text, order), linear.Play(c.kind, l, order), want)
			codes[want.Code]++
			if len(order) > len(l) {
				return
			}
			for n := -1; n <= len(l); n++ {
				ask(append(slices.Clone(order), n))
			}
		}
		ask(nil)
		for _, code := range []int{api.ErrSize, api.ErrRange, api.ErrTwice, api.ErrState, api.ErrFalse} {
			if codes[code] == 0 {
				t.Errorf("not all faults were told: %v", codes)
			}
		}
	}
}
