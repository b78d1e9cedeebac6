package linear_test

import (
	"fmt"
	"math"
	"slices"
	"strconv"
	"strings"
	"testing"

	"taskmill/api"
	"taskmill/linear"
)

// What the chapter names, and package api does not.
const (
	mostCalls  = 14
	aQueue     = 1
	aRegister  = 2
	aCounter   = 3
	kindsCount = 3
)

func fault(code, at int) api.Fault { return api.Fault{Code: code, At: at} }

var none = api.Fault{}

// calls are written with `; ` between them: Begin-End, and then one of: put Arg; take Ret (with Ok); empty (without); write Arg; read Ret; cas Old Arg (with Ok); fail Old Arg (without); inc Arg Ret.
func calls(text string) []api.Call {
	var l []api.Call
	for _, one := range strings.Split(text, "; ") {
		words := strings.Fields(one)
		if len(words) == 0 {
			continue
		}
		begin, end, _ := strings.Cut(words[0], "-")
		c := callOf(words[1:])
		c.Begin, c.End = number(begin), number(end)
		l = append(l, c)
	}
	return l
}

// callOf is a call whose Begin and End are not told yet.
func callOf(words []string) api.Call {
	n := [2]int{}
	for at, word := range words[1:] {
		n[at] = number(word)
	}
	switch words[0] {
	case "put":
		return api.Call{Kind: api.CallPut, Arg: n[0]}
	case "take":
		return api.Call{Kind: api.CallTake, Ret: n[0], Ok: true}
	case "empty":
		return api.Call{Kind: api.CallTake}
	case "write":
		return api.Call{Kind: api.CallWrite, Arg: n[0]}
	case "read":
		return api.Call{Kind: api.CallRead, Ret: n[0]}
	case "cas":
		return api.Call{Kind: api.CallCas, Old: n[0], Arg: n[1], Ok: true}
	case "fail":
		return api.Call{Kind: api.CallCas, Old: n[0], Arg: n[1]}
	case "inc":
		return api.Call{Kind: api.CallInc, Arg: n[0], Ret: n[1]}
	}
	panic(words[0])
}

func number(word string) int {
	n, err := strconv.Atoi(word)
	if err != nil {
		panic(word)
	}
	return n
}

// oneOf is a right call of a kind of thing, which tells what it should where it is the first one.
func oneOf(kind int) api.Call {
	return calls([]string{"", "0-1 put 5", "0-1 write 5", "0-1 inc 5 5"}[kind])[0]
}

// far are numbers that are no call's number, no kind of thing and no Kind of a call.
func far() []int {
	return []int{-1, -2, math.MinInt, math.MinInt + 1, 15, 1 << 32, 1<<32 + 1, 1<<32 + 2, math.MaxInt}
}

// upTo are the numbers below many, in order.
func upTo(many int) []int {
	var order []int
	for n := range many {
		order = append(order, n)
	}
	return order
}

// backward is a list with its last one first.
func backward(list []int) []int {
	list = slices.Clone(list)
	slices.Reverse(list)
	return list
}

// askNone asks Find for a linear order, where there is none.
func askNone(t *testing.T, what string, kind int, l []api.Call) {
	t.Helper()
	order, f := linear.Find(kind, l)
	same(t, what, told(order, f), told([]int{}, fault(api.ErrNone, 0)))
}

// askSome asks Find for a linear order, and Play and the document's words what they say of it.
func askSome(t *testing.T, what string, kind int, l []api.Call) []int {
	t.Helper()
	order, f := linear.Find(kind, l)
	same(t, what+": found", f, none)
	same(t, what+": played", linear.Play(kind, l, order), none)
	if !isLinearByTheWords(l, order) {
		t.Errorf("%s: %v is not linear", what, order)
	}
	return order
}

func told(parts ...any) string { return fmt.Sprintln(parts...) }

// same holds two things against each other as they are told: nil and empty lists are the same.
func same(t *testing.T, what string, got, want any) {
	t.Helper()
	if g, w := fmt.Sprint(got), fmt.Sprint(want); g != w {
		t.Errorf("%s:\n got %.1500s\nwant %.1500s", what, g, w)
	}
}
