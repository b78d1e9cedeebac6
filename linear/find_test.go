package linear_test

import (
	"fmt"
	"math"
	"slices"
	"testing"

	"taskmill/api"
	"taskmill/linear"
)

// ordered is calls of a kind of thing, and all their linear orders.
type ordered struct {
	what   string
	text   string
	orders [][]int
}

// askOrders asks Find for one of the orders, or for none, and Play for nothing of each of them; and the document's words, whether they are all.
func askOrders(t *testing.T, kind int, list []ordered) {
	t.Helper()
	for _, c := range list {
		l := calls(c.text)
		same(t, c.what+": all orders", ordersByTheWords(l), c.orders)
		for _, order := range allOrders(len(l)) {
			is := slices.ContainsFunc(c.orders, func(o []int) bool { return slices.Equal(o, order) })
			same(t, fmt.Sprint(c.what, ": play ", order), linear.Play(kind, l, order) == none, is)
		}
		if len(c.orders) == 0 {
			askNone(t, c.what, kind, l)
			continue
		}
		order := askSome(t, c.what, kind, l)
		if !slices.ContainsFunc(c.orders, func(o []int) bool { return slices.Equal(o, order) }) {
			t.Errorf("%s: %v is none of %v", c.what, order, c.orders)
		}
	}
}

// P15.2: a queue.
func TestFindQueue(t *testing.T) {
	askOrders(t, aQueue, []ordered{
		{"no calls", "", [][]int{{}}},
		{"one put", "0-1 put 1", [][]int{{0}}},
		{"one that finds none", "0-1 empty", [][]int{{0}}},
		{"one that takes", "0-1 take 1", nil},
		{"one that takes 0 of an empty one", "0-1 take 0", nil},
		{"put, and taken", "0-1 put 1; 2-3 take 1", [][]int{{0, 1}}},
		{"taken, and put", "2-3 put 1; 0-1 take 1", nil},
		{"both at once", "0-9 put 1; 0-9 take 1", [][]int{{0, 1}}},
		{"both at once, the take first in the list", "0-9 take 1; 0-9 put 1", [][]int{{1, 0}}},
		{"something else", "0-9 put 1; 0-9 take 2", nil},
		{"0 is put, and taken", "0-9 put 0; 0-9 take 0", [][]int{{0, 1}}},
		{"taken once more than put", "0-9 put 1; 0-9 take 1; 0-9 take 1", nil},
		{"put once more than taken", "0-9 put 1; 0-9 take 1; 0-9 put 1", [][]int{{0, 1, 2}, {0, 2, 1}, {2, 0, 1}, {2, 1, 0}}},
		{"the first one first", "0-1 put 1; 2-3 put 2; 4-5 take 1; 6-7 take 2", [][]int{{0, 1, 2, 3}}},
		{"the last one first", "0-1 put 1; 2-3 put 2; 4-5 take 2; 6-7 take 1", nil},
		{"the puts overlap", "0-2 put 1; 1-3 put 2; 4-5 take 2; 6-7 take 1", [][]int{{1, 0, 2, 3}}},
		{"a Begin that is just the other one's End", "0-2 put 1; 2-3 put 2; 4-5 take 2", [][]int{{1, 0, 2}}},
		{"a Begin one above the other one's End", "0-2 put 1; 3-4 put 2; 5-6 take 2", nil},
		{"the takes overlap", "0-1 put 1; 2-3 put 2; 4-6 take 2; 5-7 take 1", [][]int{{0, 1, 3, 2}}},
		{"none is found ahead of the put", "0-9 put 1; 1-2 empty; 3-4 take 1", [][]int{{1, 0, 2}}},
		{"none is found behind the take", "0-1 put 1; 2-9 take 1; 3-4 empty", [][]int{{0, 1, 2}}},
		{"none is found, though one is there", "0-1 put 1; 2-3 empty; 4-5 take 1", nil},
		{"none is found, though it is never taken", "0-1 put 1; 2-3 empty", nil},
		{"none is found twice, ahead and behind", "0-9 empty; 0-1 put 1; 2-3 take 1; 4-5 empty", [][]int{{0, 1, 2, 3}, {1, 2, 0, 3}, {1, 2, 3, 0}}},
		{"none is found between two", "0-3 put 1; 0-9 put 2; 2-5 take 1; 5-6 empty; 7-9 take 2", [][]int{{0, 2, 3, 1, 4}}},
		{"two alike", "0-9 put 1; 0-9 put 1; 0-9 take 1", [][]int{{0, 1, 2}, {0, 2, 1}, {1, 0, 2}, {1, 2, 0}}},
		{"one in between is not taken", "0-1 put 1; 2-3 put 2; 4-5 put 3; 6-7 take 1; 8-9 take 3", nil},
	})
}

// P15.2: a register.
func TestFindRegister(t *testing.T) {
	askOrders(t, aRegister, []ordered{
		{"no calls", "", [][]int{{}}},
		{"0 at first", "0-1 read 0", [][]int{{0}}},
		{"nothing else at first", "0-1 read 1", nil},
		{"written, and read", "0-1 write 7; 2-3 read 7", [][]int{{0, 1}}},
		{"written, and read as it was", "0-1 write 7; 2-3 read 0", nil},
		{"written and read at once", "0-9 write 7; 0-9 read 0; 0-9 read 7", [][]int{{1, 0, 2}}},
		{"new, and then old", "0-9 write 7; 1-2 read 7; 3-4 read 0", nil},
		{"new, and old at once", "0-9 write 7; 1-3 read 7; 3-4 read 0", [][]int{{2, 0, 1}}},
		{"0 is written again", "0-1 write 7; 0-9 write 0; 2-3 read 7; 4-5 read 0", [][]int{{0, 2, 1, 3}}},
		{"the last one is read", "0-1 write 1; 2-3 write 2; 4-5 read 2", [][]int{{0, 1, 2}}},
		{"the one ahead is read", "0-1 write 1; 2-3 write 2; 4-5 read 1", nil},
		{"either is the last one", "0-2 write 1; 1-3 write 2; 4-5 read 1", [][]int{{1, 0, 2}}},
		{"a Begin that is just the other one's End", "0-2 write 1; 2-3 write 2; 4-5 read 1", [][]int{{1, 0, 2}}},
		{"a Begin one above the other one's End", "0-2 write 1; 3-4 write 2; 5-6 read 1", nil},
		{"cas finds 0 at first", "0-1 cas 0 5; 2-3 read 5", [][]int{{0, 1}}},
		{"cas finds something else at first", "0-1 cas 1 5", nil},
		{"cas fails at first", "0-1 fail 1 5; 2-3 read 0", [][]int{{0, 1}}},
		{"cas may not fail where it finds Old", "0-1 fail 0 5", nil},
		{"cas that fails writes nothing", "0-1 fail 1 5; 2-3 read 5", nil},
		{"cas writes Arg, not Old", "0-1 write 4; 2-3 cas 4 5; 4-5 read 4", nil},
		{"cas that writes what is there", "0-1 cas 0 0; 2-3 read 0", [][]int{{0, 1}}},
		{"one of two wins", "0-9 cas 0 1; 0-9 fail 0 2; 10-11 read 1", [][]int{{0, 1, 2}}},
		{"two can't win", "0-9 cas 0 1; 0-9 cas 0 2", nil},
		{"one fails, though nobody wins", "0-9 fail 0 1; 0-9 read 0", nil},
		{"one after the other", "0-9 cas 2 3; 0-9 cas 1 2; 0-9 cas 0 1", [][]int{{2, 1, 0}}},
		{"round, and round again", "0-9 cas 0 1; 0-9 cas 1 0; 0-9 cas 0 2; 0-9 cas 2 0; 20-21 read 0", [][]int{{0, 1, 2, 3, 4}, {2, 3, 0, 1, 4}}},
		{"fails between two", "0-9 write 1; 2-3 fail 0 8; 0-9 write 0; 5-6 fail 1 8", [][]int{{0, 1, 2, 3}}},
		{"several", "0-9 write 1; 0-9 write 1; 0-9 read 1", [][]int{{0, 1, 2}, {0, 2, 1}, {1, 0, 2}, {1, 2, 0}}},
	})
}

// P15.2: a counter.
func TestFindCounter(t *testing.T) {
	askOrders(t, aCounter, []ordered{
		{"no calls", "", [][]int{{}}},
		{"0 at first", "0-1 inc 5 5", [][]int{{0}}},
		{"the sum, not what was there", "0-1 inc 5 0", nil},
		{"one after the other", "0-1 inc 5 5; 2-3 inc 5 10", [][]int{{0, 1}}},
		{"the later one first", "0-1 inc 5 10; 2-3 inc 5 5", nil},
		{"at once", "0-9 inc 2 5; 0-9 inc 3 3", [][]int{{1, 0}}},
		{"a Begin that is just the other one's End", "0-2 inc 2 5; 2-3 inc 3 3", [][]int{{1, 0}}},
		{"a Begin one above the other one's End", "0-2 inc 2 5; 3-4 inc 3 3", nil},
		{"both tell the same", "0-9 inc 1 1; 0-9 inc 1 1", nil},
		{"nothing is added", "0-9 inc 0 0; 0-9 inc 1 1; 0-9 inc 0 1", [][]int{{0, 1, 2}}},
		{"several", "0-9 inc 0 0; 0-9 inc 0 0", [][]int{{0, 1}, {1, 0}}},
		{"down again", "0-9 inc -3 0; 0-9 inc 3 3", [][]int{{1, 0}}},
		{"below 0", "0-9 inc -3 -3; 0-9 inc 3 0", [][]int{{0, 1}}},
		{"one of three is false", "0-9 inc 1 1; 0-9 inc 1 2; 0-9 inc 1 4", nil},
	})
}

// P15.2, P15.3: a counter's sum wraps, and what the others hold is told apart to the last bit.
func TestFindFarNumbers(t *testing.T) {
	inc := func(arg, ret int) api.Call { return api.Call{End: 9, Kind: api.CallInc, Arg: arg, Ret: ret} }
	for _, c := range []struct {
		l    []api.Call
		want []int
	}{
		{[]api.Call{inc(1, math.MinInt), inc(math.MaxInt, math.MaxInt)}, []int{1, 0}},
		{[]api.Call{inc(math.MinInt, math.MinInt), inc(-1, math.MaxInt)}, []int{0, 1}},
		{[]api.Call{inc(math.MinInt, 0), inc(math.MinInt, math.MinInt)}, []int{1, 0}},
		{[]api.Call{inc(math.MaxInt, -2), inc(math.MaxInt, math.MaxInt), inc(2, 0)}, []int{1, 0, 2}},
		{[]api.Call{inc(math.MaxInt, math.MaxInt), inc(1, math.MaxInt)}, nil},
		{[]api.Call{inc(1<<32, 1<<32), inc(1, 1<<32)}, nil},
	} {
		if c.want == nil {
			askNone(t, fmt.Sprint(c.l), aCounter, c.l)
			continue
		}
		same(t, fmt.Sprint(c.l), askSome(t, "wraps", aCounter, c.l), c.want)
	}
	for _, n := range []int{math.MinInt, math.MaxInt, 1 << 32, -1 << 32, 1<<62 + 1} {
		for _, kind := range []int{aQueue, aRegister} {
			in, out := api.Call{End: 1, Kind: api.CallPut, Arg: n}, api.Call{End: 1, Kind: api.CallTake, Ret: n, Ok: true}
			if kind == aRegister {
				in, out = api.Call{End: 1, Kind: api.CallWrite, Arg: n}, api.Call{End: 1, Kind: api.CallRead, Ret: n}
			}
			same(t, "far", askSome(t, "far", kind, []api.Call{out, in}), []int{1, 0})
			out.Ret++
			askNone(t, "one above", kind, []api.Call{out, in})
			out.Ret = n ^ 1<<40
			askNone(t, "another bit", kind, []api.Call{out, in})
		}
	}
}

// all are so many calls alike, but for what changes them, that all overlap.
func all(many int, text string, change func(n int, c *api.Call)) []api.Call {
	l := slices.Repeat(calls("0-1 "+text), many)
	for n := range l {
		change(n, &l[n])
	}
	return l
}

// P1, P15.2: 14 calls that all overlap and have no linear order: all orders would be far too many.
func TestFindNoneOfMany(t *testing.T) {
	for puts := range mostCalls {
		for values := 1; values <= max(1, puts); values++ {
			l := all(puts, "put", func(n int, c *api.Call) { c.Arg = n % values })
			l = append(l, all(mostCalls-puts, "take", func(n int, c *api.Call) { c.Ret = n % values })...)
			l[mostCalls-1].Ret = 99
			askNone(t, fmt.Sprint("a queue: ", puts, " puts of ", values), aQueue, l)
			slices.Reverse(l)
			askNone(t, fmt.Sprint("a queue, the takes first: ", puts, " puts of ", values), aQueue, l)
		}
	}
	askNone(t, "a queue: taken twice", aQueue, append(all(7, "put", func(n int, c *api.Call) { c.Arg = n }), all(7, "take", func(n int, c *api.Call) { c.Ret = n % 6 })...))
	for writes := range mostCalls {
		l := append(all(writes, "write", func(n int, c *api.Call) { c.Arg = n }), all(mostCalls-writes, "fail", func(n int, c *api.Call) { c.Old = n })...)
		l[mostCalls-1] = calls("0-1 read 99")[0]
		askNone(t, fmt.Sprint("a register: ", writes, " writes"), aRegister, l)
	}
	for values := 1; values < mostCalls; values++ {
		l := all(mostCalls, "cas", func(n int, c *api.Call) { c.Old, c.Arg = n%values, (n*5+1)%values })
		l[mostCalls-1].Old = 99
		askNone(t, fmt.Sprint("a register: cas of ", values), aRegister, l)
	}
	askNone(t, "a counter that stays", aCounter, all(mostCalls, "inc 0 0", func(n int, c *api.Call) { c.Ret = n / (mostCalls - 1) }))
	askNone(t, "a counter, one too far", aCounter, all(mostCalls, "inc 1 0", func(n int, c *api.Call) { c.Ret = 1 + n + n/(mostCalls-1) }))
	askNone(t, "a counter, to and fro", aCounter, all(mostCalls, "inc", func(n int, c *api.Call) { c.Arg, c.Ret = 1-n%2*2, (n+1)%2+n/(mostCalls-1) }))
}

// P1, P15.2: 14 calls, of which those that take begin when all puts have ended, so that it shows late that there is none.
func TestFindNoneLate(t *testing.T) {
	for puts := 1; puts < mostCalls; puts++ {
		for values := 1; values <= puts; values++ {
			l := all(puts, "put", func(n int, c *api.Call) { c.Arg = n % values })
			l = append(l, all(mostCalls-puts, "take", func(n int, c *api.Call) { c.Begin, c.End, c.Ret = 2, 3, n%values })...)
			l[mostCalls-1] = calls("2-3 empty")[0]
			if mostCalls-1-puts == puts { // all that is put is taken
				askSome(t, fmt.Sprint(puts, " puts of ", values), aQueue, l)
			} else {
				askNone(t, fmt.Sprint(puts, " puts of ", values), aQueue, l)
			}
		}
	}
}

// P15.2: 14 calls that have one linear order alone.
func TestFindOneOfMany(t *testing.T) {
	l := all(mostCalls, "inc 1 0", func(n int, c *api.Call) { c.Ret = mostCalls - n })
	same(t, "a counter, backward", askSome(t, "a counter", aCounter, l), backward(upTo(mostCalls)))
	l = all(mostCalls, "cas", func(n int, c *api.Call) { c.Old, c.Arg = mostCalls-1-n, mostCalls-n })
	same(t, "a register, backward", askSome(t, "a register", aRegister, l), backward(upTo(mostCalls)))
	l = all(7, "put", func(n int, c *api.Call) { c.End, c.Arg = 9, 6-n })
	l = append(l, all(7, "take", func(n int, c *api.Call) { c.Begin, c.End, c.Ret = 10+2*n, 11+2*n, n })...)
	same(t, "a queue, the puts backward", askSome(t, "a queue", aQueue, l), append(backward(upTo(7)), 7, 8, 9, 10, 11, 12, 13))
}

// P15.2: 14 calls that all overlap, and are linear in any order.
func TestFindAnyOfMany(t *testing.T) {
	for kind, text := range map[int]string{aQueue: "put 3", aRegister: "read 0", aCounter: "inc 0 0"} {
		l := slices.Repeat(calls("5-6 "+text), mostCalls)
		askSome(t, text, kind, l)
		same(t, text, linear.Play(kind, l, backward(upTo(mostCalls))), none)
	}
	askSome(t, "none is found", aQueue, slices.Repeat(calls("5-6 empty"), mostCalls))
}
