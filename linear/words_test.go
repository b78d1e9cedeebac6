package linear_test

import (
	"fmt"
	"slices"

	"taskmill/api"
)

// What stands here tells once more what the chapter's words say: of an order as a whole, and of each call by those that stand ahead of it.

// checkByTheWords answers what Check says.
func checkByTheWords(kind int, l []api.Call) api.Fault {
	if len(l) > mostCalls {
		return fault(api.ErrMany, 0)
	}
	if !slices.Contains([]int{aQueue, aRegister, aCounter}, kind) {
		return fault(api.ErrKind, -1)
	}
	kinds := [][]int{aQueue: {api.CallPut, api.CallTake}, aRegister: {api.CallWrite, api.CallRead, api.CallCas}, aCounter: {api.CallInc}}[kind]
	for at, c := range l {
		if !slices.Contains(kinds, c.Kind) {
			return fault(api.ErrKind, at)
		}
		if !(c.Begin >= 0 && c.Begin < c.End) || c.End > api.MaxNum {
			return fault(api.ErrRange, at)
		}
		if c != spokenOf(c) {
			return fault(api.ErrForm, at)
		}
	}
	return none
}

// spokenOf is a call with zeros in the fields that its Kind does not speak of.
func spokenOf(c api.Call) api.Call {
	switch c.Kind {
	case api.CallPut, api.CallWrite:
		c.Old, c.Ret, c.Ok = 0, 0, false
	case api.CallTake:
		c.Arg, c.Old = 0, 0
		if !c.Ok {
			c.Ret = 0
		}
	case api.CallRead:
		c.Arg, c.Old, c.Ok = 0, 0, false
	case api.CallInc:
		c.Old, c.Ok = 0, false
	case api.CallCas:
		c.Ret = 0
	}
	return c
}

// leftBy is what calls that are done leave, when each tells what it should: in a queue, in a register, and in a counter.
func leftBy(done []api.Call) (items []int, value, sum int) {
	taken := 0
	for _, c := range done {
		switch {
		case c.Kind == api.CallPut:
			items = append(items, c.Arg)
		case c.Kind == api.CallTake && c.Ok:
			taken++
		case c.Kind == api.CallWrite, c.Kind == api.CallCas && c.Ok:
			value = c.Arg
		case c.Kind == api.CallInc:
			sum += c.Arg
		}
	}
	return items[taken:], value, sum
}

// tellsByTheWords: does a call tell what it should, when those ahead of it are done, each of which tells what it should?
func tellsByTheWords(ahead []api.Call, c api.Call) bool {
	items, value, sum := leftBy(ahead)
	switch c.Kind {
	case api.CallTake:
		if c.Ok {
			return len(items) > 0 && items[0] == c.Ret
		}
		return len(items) == 0
	case api.CallRead:
		return c.Ret == value
	case api.CallCas:
		return c.Ok == (c.Old == value)
	case api.CallInc:
		return c.Ret == sum+c.Arg
	}
	return true
}

// isLinearByTheWords: is an order of all right calls linear?
func isLinearByTheWords(l []api.Call, order []int) bool {
	if !slices.Equal(slices.Sorted(slices.Values(order)), upTo(len(l))) {
		return false
	}
	var ahead []api.Call
	for _, n := range order {
		for _, a := range ahead {
			if a.Begin > l[n].End {
				return false
			}
		}
		if !tellsByTheWords(ahead, l[n]) {
			return false
		}
		ahead = append(ahead, l[n])
	}
	return true
}

// playByTheWords answers what Play says.
func playByTheWords(kind int, l []api.Call, order []int) api.Fault {
	if f := checkByTheWords(kind, l); f != none {
		return f
	}
	if len(order) != len(l) {
		return fault(api.ErrSize, 0)
	}
	var ahead []api.Call
	for at, n := range order {
		if !slices.Contains(upTo(len(l)), n) {
			return fault(api.ErrRange, at)
		}
		if slices.Contains(order[:at], n) {
			return fault(api.ErrTwice, at)
		}
		for other, o := range l {
			if !slices.Contains(order[:at], other) && l[n].Begin > o.End {
				return fault(api.ErrState, at)
			}
		}
		if !tellsByTheWords(ahead, l[n]) {
			return fault(api.ErrFalse, at)
		}
		ahead = append(ahead, l[n])
	}
	return none
}

// allOrders are all orders of so many calls, those with less numbers first.
func allOrders(many int) [][]int {
	if many == 0 {
		return [][]int{{}}
	}
	var all [][]int
	for first := range many {
		for _, rest := range allOrders(many - 1) {
			order := []int{first}
			for _, n := range rest {
				if n >= first {
					n++
				}
				order = append(order, n)
			}
			all = append(all, order)
		}
	}
	return all
}

// ordersByTheWords are all linear orders of right calls: each order is tried.
func ordersByTheWords(l []api.Call) [][]int {
	var linear [][]int
	for _, order := range allOrders(len(l)) {
		if isLinearByTheWords(l, order) {
			linear = append(linear, order)
		}
	}
	return linear
}

// canBeNext: can a call be done behind those ahead, when the rest comes later?
func canBeNext(ahead []api.Call, c api.Call, rest []api.Call) bool {
	tooSoon := slices.ContainsFunc(rest, func(o api.Call) bool { return c.Begin > o.End })
	return !tooSoon && tellsByTheWords(ahead, c)
}

// hasOrderByTheWords: is there a linear order? What stands ahead is tried one after the other, and nothing of it is remembered.
func hasOrderByTheWords(ahead, left []api.Call) bool {
	for at, c := range left {
		rest := slices.Delete(slices.Clone(left), at, at+1)
		if canBeNext(ahead, c, rest) && hasOrderByTheWords(append(slices.Clone(ahead), c), rest) {
			return true
		}
	}
	return len(left) == 0
}

// hasOrderStepByStep: is there a linear order? Of all that can be done in so many steps, one is kept for each set of calls with what they leave; where these are too many, it is not known.
func hasOrderStepByStep(l []api.Call) (is, known bool) {
	type spot struct {
		done int
		left string
	}
	ways := map[spot][]int{{}: nil}
	for range l {
		next := map[spot][]int{}
		for here, order := range ways {
			ahead := pickedOf(l, order)
			for n, c := range l {
				if here.done>>n&1 == 1 || !canBeNext(ahead, c, restOf(l, append(slices.Clone(order), n))) {
					continue
				}
				items, value, sum := leftBy(append(slices.Clone(ahead), c))
				next[spot{here.done | 1<<n, fmt.Sprint(items, value, sum)}] = append(slices.Clone(order), n)
			}
		}
		ways = next
		if len(ways) > 3000 {
			return false, false
		}
	}
	return len(ways) > 0, true
}

// pickedOf are the calls of an order.
func pickedOf(l []api.Call, order []int) []api.Call {
	var picked []api.Call
	for _, n := range order {
		picked = append(picked, l[n])
	}
	return picked
}

// restOf are the calls that are not in an order.
func restOf(l []api.Call, order []int) []api.Call {
	var rest []api.Call
	for n, c := range l {
		if !slices.Contains(order, n) {
			rest = append(rest, c)
		}
	}
	return rest
}
