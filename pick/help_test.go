package pick_test

import (
	"fmt"
	"math"
	"slices"
	"testing"

	"taskmill/api"
)

func fault(code, at int) api.Fault { return api.Fault{Code: code, At: at} }

var none = api.Fault{}

// most is how many pipes a hub may have, and a choice cases.
const most = 20

// hub is the list of these pipes.
func hub(pipes ...api.Pipe) []api.Pipe { return pipes }

// open is a pipe with items at which nobody waits.
func open(size int, items ...int) api.Pipe { return api.Pipe{Cap: size, Items: items} }

// closed is the pipe, Closed.
func closed(p api.Pipe) api.Pipe {
	p.Closed = true
	return p
}

// sending is the pipe at which these wait to send.
func sending(p api.Pipe, posts ...api.Post) api.Pipe {
	p.Senders = posts
	return p
}

// getting is the pipe at which these wait to get.
func getting(p api.Pipe, posts ...api.Post) api.Pipe {
	p.Getters = posts
	return p
}

// post is a task that waits by a case with a value.
func post(task, number, value int) api.Post {
	return api.Post{Task: task, Case: number, Value: value}
}

// posts are n of the tasks first, first + 1, and so on; without values.
func posts(first, n int) []api.Post {
	list := make([]api.Post, n)
	for i := range list {
		list[i].Task = first + i
	}
	return list
}

// upTo is the list of first, first + 1, and so on, n numbers in all.
func upTo(first, n int) []int {
	list := make([]int, n)
	for i := range list {
		list[i] = first + i
	}
	return list
}

// downTo is the order from the last of n cases to the first.
func downTo(n int) []int {
	list := upTo(0, n)
	slices.Reverse(list)
	return list
}

// alike is n times the pipe.
func alike(n int, p api.Pipe) []api.Pipe { return slices.Repeat(hub(p), n) }

// with is the new list with another one at the place i.
func with[T any](list []T, i int, other T) []T {
	list = slices.Clone(list)
	list[i] = other
	return list
}

// sends is the case to send a value to a pipe, gets the one to get from it.
func sends(pipe, value int) api.Case { return api.Case{Pipe: pipe, Send: true, Value: value} }
func gets(pipe int) api.Case         { return api.Case{Pipe: pipe} }

// choice is the list of these cases.
func choice(cases ...api.Case) []api.Case { return cases }

// getsFrom are cases to get from the first n pipes.
func getsFrom(n int) []api.Case {
	cases := make([]api.Case, n)
	for i := range cases {
		cases[i].Pipe = i
	}
	return cases
}

// done is the answer by a case that tells nothing else but who is woken.
func done(number int, wakes ...api.Wake) api.Answer {
	return api.Answer{Done: true, Case: number, Wakes: wakes}
}

// gave is the answer, by a case, to who got a value.
func gave(number, value int, wakes ...api.Wake) api.Answer {
	return api.Answer{Done: true, Ok: true, Value: value, Case: number, Wakes: wakes}
}

// panics is the answer, by a case, to who does what may not be done to a closed pipe.
func panics(number int) api.Answer { return api.Answer{Done: true, Panic: true, Case: number} }

var waiting = api.Answer{}

// goesOn is a task that is woken without a value.
func goesOn(task, number int) api.Wake { return api.Wake{Task: task, Case: number} }

// goesOnWith is a getter that is woken with a value.
func goesOnWith(task, number, value int) api.Wake {
	return api.Wake{Task: task, Case: number, Value: value, Ok: true}
}

// goesDown is a sender that is woken to panic.
func goesDown(task, number int) api.Wake { return api.Wake{Task: task, Case: number, Panic: true} }

// same holds two things against each other as they are told: nil and empty lists are the same.
func same(t *testing.T, what string, got, want any) {
	t.Helper()
	g, w := fmt.Sprint(got), fmt.Sprint(want)
	if g == w {
		return
	}
	if len(g)+len(w) > 2000 {
		t.Errorf("%s: not as wanted (%d and %d bytes)", what, len(g), len(w))
		return
	}
	t.Errorf("%s: got %v, want %v", what, g, w)
}

// bare asks that nothing stands beside a fault.
func bare(t *testing.T, what string, then []api.Pipe, a api.Answer) {
	t.Helper()
	same(t, what+": beside the fault", fmt.Sprint(then, a), fmt.Sprint([]api.Pipe{}, api.Answer{}))
}

// wrongHub is a hub of which Check says something, and what it says.
type wrongHub struct {
	what string
	l    []api.Pipe
	want api.Fault
}

func wrongs() []wrongHub {
	return slices.Concat(wrongCounts(), wrongPipes(), wrongTwofold())
}

func wrongCounts() []wrongHub {
	return []wrongHub{
		{"a pipe too many", alike(most+1, open(0)), fault(api.ErrMany, 0)},
		{"far too many", alike(3000, open(1, 7)), fault(api.ErrMany, 0)},
		{"too many ahead of the first pipe", with(alike(most+1, open(0)), 0, open(-1)), fault(api.ErrMany, 0)},
		{"too many ahead of the last pipe", with(alike(most+1, open(0)), most, open(0, 7)), fault(api.ErrMany, 0)},
		{"too many ahead of all pipes", alike(most+1, open(-1)), fault(api.ErrMany, 0)},
	}
}

// wrongPipes are hubs with one wrong pipe: of each fault that chapter 5 tells, At 0, 1 and 2.
func wrongPipes() []wrongHub {
	one, other := post(1, 0, 5), post(2, 0, 0)
	kinds := []struct {
		what string
		p    api.Pipe
		code int
	}{
		{"too many in it", sending(open(0), posts(1, api.MaxList+1)...), api.ErrMany},
		{"Cap below 0", open(-1), api.ErrRange},
		{"Cap of 1001", open(1001), api.ErrRange},
		{"items beyond Cap", open(1, 7, 8), api.ErrSize},
		{"senders beside room", sending(open(1), one), api.ErrForm},
		{"a sender, closed", sending(closed(open(0)), one), api.ErrForm},
		{"getters beside items", getting(open(1, 7), other), api.ErrForm},
		{"senders beside getters", getting(sending(open(0), one), other), api.ErrForm},
		{"a sender below 1", sending(open(0), post(0, 0, 5)), api.ErrRange},
		{"a sender's case far below", sending(open(0), post(1, math.MinInt, 5)), api.ErrRange},
		{"a sender twice", sending(open(0), one, one), api.ErrTwice},
		{"a getter below 1", getting(open(0), other, post(-1, 0, 0)), api.ErrRange},
		{"a getter twice", getting(open(0), other, other), api.ErrTwice},
		{"a getter with a value", getting(open(0), other, one), api.ErrForm},
	}
	var list []wrongHub
	for _, k := range kinds {
		list = append(list,
			wrongHub{k.what + ", the only pipe", hub(k.p), fault(k.code, 0)},
			wrongHub{k.what + ", the first pipe", hub(k.p, open(1), open(0)), fault(k.code, 0)},
			wrongHub{k.what + ", a pipe between", hub(open(1, 4), k.p, closed(open(0))), fault(k.code, 1)},
			wrongHub{k.what + ", the last pipe of all", with(alike(most, open(3, 4)), most-1, k.p), fault(k.code, most-1)},
		)
	}
	return list
}

// wrongTwofold are hubs with more than one wrong pipe.
func wrongTwofold() []wrongHub {
	form, size := getting(closed(open(0)), post(1, 0, 0)), open(0, 7)
	twice := sending(open(0), post(1, 0, 5), post(1, 0, 6))
	return []wrongHub{
		{"the first pipe's ahead of the second's", hub(form, size), fault(api.ErrForm, 0)},
		{"the first pipe's ahead of the second's, turned round", hub(size, form), fault(api.ErrSize, 0)},
		{"the second pipe's ahead of the last's", hub(open(1), twice, open(-1)), fault(api.ErrTwice, 1)},
		{"the same of two pipes", hub(open(1), open(0), twice, twice), fault(api.ErrTwice, 2)},
		{"of all pipes", alike(most, open(-1)), fault(api.ErrRange, 0)},
	}
}
