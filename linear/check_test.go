package linear_test

import (
	"fmt"
	"math"
	"slices"
	"testing"

	"taskmill/api"
	"taskmill/linear"
)

// askFault asks all three calls: each tells first what Check says, and nothing beside it.
func askFault(t *testing.T, what string, kind int, l []api.Call, want api.Fault) {
	t.Helper()
	same(t, what+": check", linear.Check(kind, l), want)
	order, f := linear.Find(kind, l)
	same(t, what+": find", told(order, f), told([]int{}, want))
	for _, order := range [][]int{nil, {0}, upTo(len(l)), upTo(len(l) + 1), slices.Repeat([]int{0}, len(l)), slices.Repeat([]int{-1}, len(l)), backward(upTo(len(l)))} {
		same(t, fmt.Sprint(what, ": play ", order), linear.Play(kind, l, order), want)
	}
}

// askRight asks Check whether nothing is wrong; Find and Play tell nothing of Check's then.
func askRight(t *testing.T, what string, kind int, l []api.Call) {
	t.Helper()
	same(t, what+": check", linear.Check(kind, l), none)
	if _, f := linear.Find(kind, l); f != none && f != fault(api.ErrNone, 0) {
		t.Errorf("%s: find: %v", what, f)
	}
	same(t, what+": play", linear.Play(kind, l, upTo(len(l)+1)), fault(api.ErrSize, 0))
}

// P15.1: calls of which nothing is wrong, also where they have no linear order.
func TestCheckRight(t *testing.T) {
	for _, c := range []struct {
		what, text string
		kind       int
	}{
		{"a queue", "0-1 put 1; 2-3 take 1; 4-5 empty; 0-9 put 0; 0-9 put -3; 0-9 take -3; 0-9 take 0", aQueue},
		{"a queue that is false", "0-1 take 7; 2-3 take 7", aQueue},
		{"a register", "0-1 write 1; 0-1 read 1; 0-1 cas 1 2; 0-1 fail 5 6; 0-1 read 0; 0-1 write 0; 0-1 write -9", aRegister},
		{"a register that is false", "0-1 read 4; 5-6 cas 3 3", aRegister},
		{"cas with zeros, and with any numbers", "0-1 cas 0 0; 0-1 fail 0 0; 0-1 fail -1 0; 0-1 fail 0 -1; 0-1 cas -1 0; 0-1 cas 0 -1", aRegister},
		{"a counter", "0-1 inc 1 1; 0-1 inc 0 1; 0-1 inc -4 -3; 0-1 inc 0 0; 0-1 inc 3 0", aCounter},
		{"calls alike", "0-1 inc 1 1; 0-1 inc 1 1; 0-1 inc 1 1", aCounter},
	} {
		askRight(t, c.what, c.kind, calls(c.text))
	}
	for _, n := range []int{math.MinInt, math.MaxInt, -api.MaxNum - 1, api.MaxNum + 1} {
		askRight(t, "what is put or taken has no bound", aQueue, []api.Call{{End: 1, Kind: api.CallPut, Arg: n}, {End: 1, Kind: api.CallTake, Ret: n, Ok: true}})
		askRight(t, "nor has what a register holds", aRegister, []api.Call{{End: 1, Kind: api.CallWrite, Arg: n}, {End: 1, Kind: api.CallRead, Ret: n}, {End: 1, Kind: api.CallCas, Arg: n, Old: n, Ok: true}})
		askRight(t, "nor a counter", aCounter, []api.Call{{End: 1, Kind: api.CallInc, Arg: n, Ret: n}})
	}
}

// P15.1: no calls, one, 14 and 15.
func TestCheckMany(t *testing.T) {
	for kind := 1; kind <= kindsCount; kind++ {
		one := oneOf(kind)
		for _, many := range []int{0, 1, 2, mostCalls - 1, mostCalls} {
			askRight(t, fmt.Sprint(many), kind, slices.Repeat([]api.Call{one}, many))
		}
		for _, many := range []int{mostCalls + 1, mostCalls + 2, 63, 64, 65, api.MaxList + 1} {
			askFault(t, fmt.Sprint(many), kind, slices.Repeat([]api.Call{one}, many), fault(api.ErrMany, 0))
		}
		askFault(t, "none is right", kind, make([]api.Call, mostCalls+1), fault(api.ErrMany, 0))
	}
	askFault(t, "ahead of the kind", 0, make([]api.Call, mostCalls+1), fault(api.ErrMany, 0))
	askFault(t, "ahead of the kind", 4, slices.Repeat([]api.Call{oneOf(aCounter)}, mostCalls+1), fault(api.ErrMany, 0))
	askFault(t, "14 of no kind", 4, slices.Repeat([]api.Call{oneOf(aCounter)}, mostCalls), fault(api.ErrKind, -1))
}

// P15.1: the kinds of things are 1, 2 and 3, also where there are no calls.
func TestCheckKindOfThing(t *testing.T) {
	for _, kind := range []int{1, 2, 3} {
		askRight(t, "no calls", kind, nil)
	}
	for _, kind := range append(far(), 0, 4, 5, 6, 1<<32+3) {
		askFault(t, fmt.Sprint("no calls, kind ", kind), kind, nil, fault(api.ErrKind, -1))
		for right := 1; right <= kindsCount; right++ {
			askFault(t, fmt.Sprint("a call, kind ", kind), kind, []api.Call{oneOf(right)}, fault(api.ErrKind, -1))
		}
		askFault(t, "ahead of the calls' own", kind, []api.Call{{Kind: kind, Begin: -1, Arg: 1, Old: 1, Ret: 1, Ok: true}}, fault(api.ErrKind, -1))
	}
}

// P15.1: each Kind of call at each kind of thing.
func TestCheckKindOfCall(t *testing.T) {
	of := map[int]int{
		api.CallPut: aQueue, api.CallTake: aQueue, api.CallInc: aCounter,
		api.CallWrite: aRegister, api.CallRead: aRegister, api.CallCas: aRegister,
	}
	for _, call := range append(far(), 0, 1, 2, 3, 4, 5, 6, 7, 8) {
		for kind := 1; kind <= kindsCount; kind++ {
			what, l := fmt.Sprint("Kind ", call, " at ", kind), []api.Call{oneOf(kind), {End: 1, Kind: call}, oneOf(kind)}
			if of[call] == kind {
				askRight(t, what, kind, l)
				continue
			}
			askFault(t, what, kind, l, fault(api.ErrKind, 1))
			askFault(t, what+" alone", kind, l[1:2], fault(api.ErrKind, 0))
			l[1] = api.Call{Begin: -1, End: -1, Kind: call, Arg: 1, Old: 1, Ret: 1, Ok: true}
			askFault(t, what+", ahead of the others", kind, l, fault(api.ErrKind, 1))
		}
	}
}

// P15.1: Begin is from 0 on, and below End, which is not above MaxNum.
func TestCheckRange(t *testing.T) {
	for _, c := range []struct {
		begin, end int
		right      bool
	}{
		{0, 1, true}, {-1, 1, false}, {-1, 0, false}, {-2, -1, false}, {math.MinInt, 1, false}, {math.MinInt, math.MaxInt, false},
		{0, 0, false}, {1, 1, false}, {1, 2, true}, {5, 5, false}, {5, 6, true}, {5, 4, false}, {1, 0, false}, {5, -1, false}, {5, math.MinInt, false},
		{0, api.MaxNum, true}, {api.MaxNum - 1, api.MaxNum, true}, {api.MaxNum, api.MaxNum, false}, {0, api.MaxNum + 1, false},
		{api.MaxNum, api.MaxNum + 1, false}, {api.MaxNum + 1, api.MaxNum, false}, {0, math.MaxInt, false}, {math.MaxInt, math.MinInt, false},
		{math.MaxInt, math.MaxInt, false}, {0, 1 << 32, false}, {0, 1<<32 + 1, false}, {1 << 32, 5, false},
	} {
		for kind := 1; kind <= kindsCount; kind++ {
			one := oneOf(kind)
			one.Begin, one.End = c.begin, c.end
			what, l := fmt.Sprint(c.begin, "-", c.end), []api.Call{oneOf(kind), oneOf(kind), one}
			if c.right {
				askRight(t, what, kind, l)
				continue
			}
			askFault(t, what, kind, l, fault(api.ErrRange, 2))
			l[2].Old, l[2].Ret, l[2].Ok = 1, 1, true
			askFault(t, what+", ahead of the form", kind, l, fault(api.ErrRange, 2))
		}
	}
}

// P15.1: fields that a call's Kind does not speak of are zero.
func TestCheckForm(t *testing.T) {
	const arg, old, ret, ok = 1, 2, 4, 8
	for _, c := range []struct {
		what   string
		kind   int
		call   int
		with   int // these are set in any case
		speaks int
	}{
		{"put", aQueue, api.CallPut, 0, arg},
		{"take with Ok", aQueue, api.CallTake, ok, ret | ok},
		{"take without Ok", aQueue, api.CallTake, 0, ok},
		{"write", aRegister, api.CallWrite, 0, arg},
		{"read", aRegister, api.CallRead, 0, ret},
		{"cas with Ok", aRegister, api.CallCas, ok, arg | old | ok},
		{"cas without Ok", aRegister, api.CallCas, 0, arg | old | ok},
		{"inc", aCounter, api.CallInc, 0, arg | ret},
	} {
		for fields := range 16 {
			if fields&ok != c.with {
				continue
			}
			askFields(t, fmt.Sprint(c.what, fields), c.kind, c.call, fields, fields&^c.speaks == 0)
		}
		for _, field := range []int{arg, old, ret} {
			askFields(t, fmt.Sprint(c.what, field, " alone"), c.kind, c.call, c.with|field, field&^c.speaks == 0)
		}
		if c.speaks&ok == 0 {
			askFields(t, c.what+" with Ok, which it has not", c.kind, c.call, ok, false)
			askFields(t, c.what+" with Ok, and all it speaks of", c.kind, c.call, ok|c.speaks, false)
		}
	}
}

// askFields asks for a call some of whose fields are not zero: 1 is Arg, 2 Old, 4 Ret, 8 Ok.
func askFields(t *testing.T, what string, kind, of, fields int, right bool) {
	t.Helper()
	for _, n := range []int{1, -1, math.MinInt, math.MaxInt, 1 << 32} {
		c := api.Call{End: 1, Kind: of, Ok: fields&8 != 0}
		for bit, field := range []*int{&c.Arg, &c.Old, &c.Ret} {
			if fields>>bit&1 == 1 {
				*field = n
			}
		}
		l := []api.Call{oneOf(kind), c, oneOf(kind)}
		if right {
			askRight(t, what, kind, l)
		} else {
			askFault(t, what, kind, l, fault(api.ErrForm, 1))
		}
	}
}

// P15.1: call by call: what is wrong with one is told ahead of all that is wrong with those behind it.
func TestCheckFirstCallFirst(t *testing.T) {
	kinds, ranges, forms := api.Call{End: 1}, api.Call{Kind: api.CallInc}, api.Call{End: 1, Kind: api.CallInc, Old: 1}
	right := oneOf(aCounter)
	for _, c := range []struct {
		l    []api.Call
		want api.Fault
	}{
		{[]api.Call{kinds, ranges, forms}, fault(api.ErrKind, 0)},
		{[]api.Call{ranges, kinds, forms}, fault(api.ErrRange, 0)},
		{[]api.Call{forms, ranges, kinds}, fault(api.ErrForm, 0)},
		{[]api.Call{right, forms, kinds}, fault(api.ErrForm, 1)},
		{[]api.Call{right, ranges, kinds}, fault(api.ErrRange, 1)},
		{[]api.Call{right, right, forms, ranges}, fault(api.ErrForm, 2)},
		{[]api.Call{right, kinds, kinds}, fault(api.ErrKind, 1)},
		{append(slices.Repeat([]api.Call{right}, mostCalls-1), forms), fault(api.ErrForm, mostCalls-1)},
		{append(slices.Repeat([]api.Call{right}, mostCalls-1), kinds), fault(api.ErrKind, mostCalls-1)},
		{append(slices.Repeat([]api.Call{right}, mostCalls-1), ranges), fault(api.ErrRange, mostCalls-1)},
	} {
		askFault(t, fmt.Sprint(c.l), aCounter, c.l, c.want)
	}
}

// P15.1: Find and Play tell what Check says ahead of their own, also where there is no linear order, and the order is none.
func TestCheckAheadOfTheOthers(t *testing.T) {
	false1 := calls("0-1 take 1")[0]
	for at := range 3 {
		l := []api.Call{false1, false1, false1}
		l[at].Arg = 1
		askFault(t, "no linear order", aQueue, l, fault(api.ErrForm, at))
		l[at].Arg, l[at].End = 0, 0
		askFault(t, "no linear order", aQueue, l, fault(api.ErrRange, at))
		l[at].Kind = api.CallRead
		askFault(t, "no linear order", aQueue, l, fault(api.ErrKind, at))
	}
}
