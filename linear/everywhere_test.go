package linear_test

import (
	"fmt"
	"math"
	"math/rand"
	"slices"
	"testing"

	"taskmill/api"
	"taskmill/linear"
)

// anyCall is a right one of a kind of thing, with so few numbers that several calls often have a linear order.
func anyCall(r *rand.Rand, kind, numbers int) api.Call {
	c := api.Call{Begin: r.Intn(8)}
	c.End = c.Begin + 1 + r.Intn(5)
	a, b := r.Intn(numbers), r.Intn(numbers)
	switch kind {
	case aQueue:
		c.Kind = api.CallPut + r.Intn(2)
	case aRegister:
		c.Kind = []int{api.CallWrite, api.CallRead, api.CallCas}[r.Intn(3)]
	case aCounter:
		c.Kind = api.CallInc
		a -= 1
	}
	c.Arg, c.Old, c.Ret, c.Ok = a, b, b, r.Intn(3) > 0
	return spokenOf(c)
}

// anyCalls are right ones; many have no linear order.
func anyCalls(r *rand.Rand, kind, many int) []api.Call {
	var l []api.Call
	for range many {
		l = append(l, anyCall(r, kind, 3))
	}
	return l
}

// trueCalls have a linear order: each is done at a point of its own, and tells what it should there.
func trueCalls(r *rand.Rand, kind, many int) []api.Call {
	var l []api.Call
	sum, longest, numbers := 0, 2+r.Intn(60), 2+r.Intn(7)
	for len(l) < many {
		c := anyCall(r, kind, numbers)
		if kind == aCounter {
			c.Ret = c.Arg + sum
			sum = c.Ret
		}
		for !tellsByTheWords(l, c) {
			c = anyCall(r, kind, numbers)
		}
		point := 10 * (len(l) + 1)
		c.Begin, c.End = max(0, point-r.Intn(longest)), point+1+r.Intn(longest)
		l = append(l, c)
	}
	r.Shuffle(len(l), func(i, k int) { l[i], l[k] = l[k], l[i] })
	return l
}

// nearlyTrueCalls are such ones, but for a few that may tell something else, or be done at another time.
func nearlyTrueCalls(r *rand.Rand, kind, many int) []api.Call {
	l := trueCalls(r, kind, many)
	if many == 0 {
		return l
	}
	for range r.Intn(4) {
		at := r.Intn(many)
		begin, end := l[at].Begin, l[at].End
		if r.Intn(2) == 0 {
			l[at] = anyCall(r, kind, 3)
			l[at].Begin, l[at].End = begin, end
		} else {
			l[at].Begin, l[at].End = end, end+1+r.Intn(20)
		}
	}
	return l
}

// askAll asks all calls for what the document's words say, and that they answer the same again (but for the order, which is free): whether there is a linear order.
func askAll(t *testing.T, kind int, l []api.Call) bool {
	t.Helper()
	what := fmt.Sprint(kind, l)
	wrong := checkByTheWords(kind, l)
	is := wrong == none && hasOrderByTheWords(nil, l)
	for range 2 {
		same(t, "check "+what, linear.Check(kind, l), wrong)
		order, f := linear.Find(kind, l)
		switch {
		case wrong != none:
			same(t, "find "+what, told(order, f), told([]int{}, wrong))
		case !is:
			same(t, "find "+what, told(order, f), told([]int{}, fault(api.ErrNone, 0)))
		case f != none || !isLinearByTheWords(l, order):
			t.Errorf("find %s: %v %v", what, order, f)
		}
		for _, order := range [][]int{order, nil, upTo(len(l)), backward(upTo(len(l))), slices.Repeat([]int{0}, len(l))} {
			same(t, fmt.Sprint("play ", what, order), linear.Play(kind, l, order), playByTheWords(kind, l, order))
		}
	}
	return is
}

// P15.2: Find held against a trying of all orders, for few calls.
func TestFindAgainstAllOrders(t *testing.T) {
	r := rand.New(rand.NewSource(241))
	some, no := map[int]int{}, map[int]int{}
	for range 9000 {
		kind := 1 + r.Intn(kindsCount)
		l := nearlyTrueCalls(r, kind, r.Intn(6))
		if r.Intn(3) == 0 {
			l = anyCalls(r, kind, r.Intn(6))
		}
		if orders := ordersByTheWords(l); len(orders) == 0 {
			no[kind]++
			askNone(t, fmt.Sprint(l), kind, l)
		} else {
			some[kind]++
			order := askSome(t, fmt.Sprint(l), kind, l)
			same(t, fmt.Sprint(l), slices.ContainsFunc(orders, func(o []int) bool { return slices.Equal(o, order) }), true)
		}
	}
	for kind := 1; kind <= kindsCount; kind++ {
		if some[kind] < 300 || no[kind] < 300 {
			t.Errorf("kind %d: %d with an order, %d without", kind, some[kind], no[kind])
		}
	}
}

// P15.1 to P15.3, at more calls.
func TestAnyCalls(t *testing.T) {
	r := rand.New(rand.NewSource(242))
	some, no := map[int]int{}, map[int]int{}
	for range 9000 {
		kind := 1 + r.Intn(kindsCount)
		if askAll(t, kind, nearlyTrueCalls(r, kind, 4+r.Intn(5))) {
			some[kind]++
		} else {
			no[kind]++
		}
	}
	for kind := 1; kind <= kindsCount; kind++ {
		if some[kind] < 300 || no[kind] < 300 {
			t.Errorf("kind %d: %d with an order, %d without", kind, some[kind], no[kind])
		}
	}
}

// P15.2, at as many calls as may be.
func TestManyCalls(t *testing.T) {
	r := rand.New(rand.NewSource(244))
	some, no := map[int]int{}, map[int]int{}
	for range 600 {
		kind := 1 + r.Intn(kindsCount)
		l := nearlyTrueCalls(r, kind, mostCalls-r.Intn(5))
		switch is, known := hasOrderStepByStep(l); {
		case known && is:
			some[kind]++
			askSome(t, fmt.Sprint(l), kind, l)
		case known:
			no[kind]++
			askNone(t, fmt.Sprint(l), kind, l)
		}
	}
	for kind := 1; kind <= kindsCount; kind++ {
		if some[kind] < 25 || no[kind] < 25 {
			t.Errorf("kind %d: %d with an order, %d without", kind, some[kind], no[kind])
		}
	}
}

// shapes are calls of a kind of thing with the numbers 0 and 1.
func shapes(kind int) []string {
	switch kind {
	case aQueue:
		return []string{"put 0", "put 1", "take 0", "take 1", "empty"}
	case aRegister:
		return []string{"write 0", "write 1", "read 0", "read 1", "cas 0 1", "cas 1 0", "cas 1 1", "fail 0 1", "fail 1 0", "fail 1 1"}
	}
	return []string{"inc 0 0", "inc 0 1", "inc 1 0", "inc 1 1", "inc 1 2", "inc -1 0", "inc -1 1"}
}

// P15.1 to P15.3, at all short lists of calls with few numbers.
func TestShortLists(t *testing.T) {
	for kind := 1; kind <= kindsCount; kind++ {
		var each []api.Call
		for _, shape := range shapes(kind) {
			for _, when := range []string{"0-1", "1-2", "2-3", "0-3"} {
				each = append(each, calls(when+" "+shape)...)
			}
		}
		for _, one := range each {
			askAll(t, kind, []api.Call{one})
			for _, two := range each {
				askAll(t, kind, []api.Call{one, two})
				for at, three := range each {
					if at%3 == one.Begin || kind == aQueue { // a third of them, as they are many
						askAll(t, kind, []api.Call{one, two, three})
					}
				}
			}
		}
	}
}

// P15.2, at all lists of four or five calls of a queue that all overlap, or one of which is done behind the others.
func TestShortQueues(t *testing.T) {
	var try func(l []api.Call, left int)
	try = func(l []api.Call, left int) {
		if left == 0 {
			askAll(t, aQueue, l)
			last := slices.Clone(l)
			last[len(l)-1].Begin, last[len(l)-1].End = 2, 3
			askAll(t, aQueue, last)
			return
		}
		for _, shape := range []string{"0-1 put 1", "0-1 put 2", "0-1 take 1", "0-1 take 2", "0-1 empty"} {
			try(append(slices.Clone(l), calls(shape)...), left-1)
		}
	}
	try(nil, 4)
	try(nil, 5)
}

// P1: no call panics whatever it is given, and each answers what the document's words say, and the same again.
func TestWildInputs(t *testing.T) {
	r := rand.New(rand.NewSource(243))
	wild := []int{math.MinInt, math.MaxInt, -2, -1, 0, 1, 2, 3, 4, 5, 6, 7, 14, 15, 63, 64, api.MaxNum, api.MaxNum + 1, 1 << 32, 1<<32 + 1}
	spoil := func(n *int) {
		if r.Intn(25) == 0 {
			*n = wild[r.Intn(len(wild))]
		}
	}
	codes, plays := map[int]int{}, map[int]int{}
	const times = 30000
	for range times {
		kind := 1 + r.Intn(kindsCount)
		l := nearlyTrueCalls(r, kind, r.Intn(5))
		order := r.Perm(len(l))
		spoil(&kind)
		for at := range l {
			if r.Intn(3) == 0 {
				for _, n := range []*int{&l[at].Begin, &l[at].End, &l[at].Kind, &l[at].Arg, &l[at].Old, &l[at].Ret} {
					spoil(n)
				}
				l[at].Ok = l[at].Ok != (r.Intn(25) == 0)
			}
			spoil(&order[at])
			if r.Intn(25) == 0 {
				order[at] = order[0]
			}
		}
		if r.Intn(40) == 0 {
			l = append(l, make([]api.Call, mostCalls-len(l)+r.Intn(2))...)
		}
		if r.Intn(40) == 0 {
			order = append(order, 0)
		}
		askAll(t, kind, l)
		want := playByTheWords(kind, l, order)
		same(t, fmt.Sprint("play ", kind, l, order), linear.Play(kind, l, order), want)
		codes[checkByTheWords(kind, l).Code]++
		plays[want.Code]++
	}
	for _, code := range []int{api.OK, api.ErrMany, api.ErrKind, api.ErrRange, api.ErrForm} {
		if codes[code] < times/200 {
			t.Errorf("not all faults of Check were asked: %v", codes)
		}
	}
	for _, code := range []int{api.OK, api.ErrSize, api.ErrRange, api.ErrTwice, api.ErrState, api.ErrFalse} {
		if plays[code] < times/200 {
			t.Errorf("not all faults of Play were asked: %v", plays)
		}
	}
}

// P1: the farthest numbers, everywhere at once.
func TestFarthest(t *testing.T) {
	for _, n := range append(far(), 0, 1, 2, 3, 4, api.MaxNum) {
		for _, ok := range []bool{false, true} {
			one := api.Call{Begin: n, End: n, Kind: n, Arg: n, Old: n, Ret: n, Ok: ok}
			for kind := 0; kind <= kindsCount+1; kind++ {
				askAll(t, kind, []api.Call{one})
				for call := range 8 {
					askAll(t, kind, []api.Call{{End: 1, Kind: call, Arg: n, Ret: n, Old: n, Ok: ok}})
					askAll(t, kind, []api.Call{spokenOf(api.Call{End: 1, Kind: call, Arg: n, Ret: n, Old: n, Ok: ok}), {Begin: n, End: n, Kind: call}})
					askAll(t, kind, []api.Call{{Begin: 0, End: n, Kind: call}, {Begin: n, End: api.MaxNum, Kind: call}})
				}
			}
			same(t, "far, all", linear.Play(n, []api.Call{one}, []int{n}), playByTheWords(n, []api.Call{one}, []int{n}))
		}
	}
}
