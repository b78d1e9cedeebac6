package pipe_test

import (
	"fmt"
	"math"
	"slices"
	"testing"

	"taskmill/api"
)

func fault(code, at int) api.Fault { return api.Fault{Code: code, At: at} }

var none = api.Fault{}

// open is a pipe with items at which nobody waits.
func open(size int, items ...int) api.Pipe { return api.Pipe{Cap: size, Items: items} }

// closed is the pipe, Closed.
func closed(p api.Pipe) api.Pipe {
	p.Closed = true
	return p
}

// sending is the pipe at which these wait to send.
func sending(p api.Pipe, posts ...api.Post) api.Pipe {
	p.Senders = posts
	return p
}

// getting is the pipe at which these wait to get.
func getting(p api.Pipe, posts ...api.Post) api.Pipe {
	p.Getters = posts
	return p
}

// post is a task that waits by a case with a value.
func post(task, number, value int) api.Post {
	return api.Post{Task: task, Case: number, Value: value}
}

// posts are n of the tasks first, first + 1, and so on; without values.
func posts(first, n int) []api.Post {
	list := make([]api.Post, n)
	for i := range list {
		list[i].Task = first + i
	}
	return list
}

// upTo is the list of first, first + 1, and so on, n numbers in all.
func upTo(first, n int) []int {
	list := make([]int, n)
	for i := range list {
		list[i] = first + i
	}
	return list
}

// with is the new list with another one at the place i.
func with(list []api.Post, i int, other api.Post) []api.Post {
	list = slices.Clone(list)
	list[i] = other
	return list
}

// done is the answer to what is done and tells nothing else but who is woken.
func done(wakes ...api.Wake) api.Answer { return api.Answer{Done: true, Wakes: wakes} }

// gave is the answer to who got a value.
func gave(value int, wakes ...api.Wake) api.Answer {
	return api.Answer{Done: true, Ok: true, Value: value, Wakes: wakes}
}

var (
	waiting = api.Answer{}
	panics  = api.Answer{Done: true, Panic: true}
)

// goesOn is a task that is woken without a value.
func goesOn(task, number int) api.Wake { return api.Wake{Task: task, Case: number} }

// goesOnWith is a getter that is woken with a value.
func goesOnWith(task, number, value int) api.Wake {
	return api.Wake{Task: task, Case: number, Value: value, Ok: true}
}

// goesDown is a sender that is woken to panic.
func goesDown(task, number int) api.Wake { return api.Wake{Task: task, Case: number, Panic: true} }

// same holds two things against each other as they are told: nil and empty lists are the same.
func same(t *testing.T, what string, got, want any) {
	t.Helper()
	g, w := fmt.Sprint(got), fmt.Sprint(want)
	if g == w {
		return
	}
	if len(g)+len(w) > 2000 {
		t.Errorf("%s: not as wanted (%d and %d bytes)", what, len(g), len(w))
		return
	}
	t.Errorf("%s: got %v, want %v", what, g, w)
}

// bare asks that nothing stands beside a fault.
func bare(t *testing.T, what string, p api.Pipe, a api.Answer) {
	t.Helper()
	same(t, what+": beside the fault", fmt.Sprint(p, a), fmt.Sprint(api.Pipe{}, api.Answer{}))
}

// wrongPipe is a pipe of which Check says something, and what it says.
type wrongPipe struct {
	what string
	p    api.Pipe
	want api.Fault
}

func wrongs() []wrongPipe {
	return slices.Concat(wrongCounts(), wrongForms(), wrongTasks(), wrongTwice(), wrongTwofold())
}

func wrongCounts() []wrongPipe {
	const most = api.MaxList
	return []wrongPipe{
		{"a sender too many", sending(open(0), posts(1, most+1)...), fault(api.ErrMany, 0)},
		{"a getter too many", getting(open(0), posts(1, most+1)...), fault(api.ErrMany, 0)},
		{"an item too many", open(1000, upTo(1, most+1)...), fault(api.ErrMany, 0)},
		{"far too many", sending(open(0), posts(1, 3*most)...), fault(api.ErrMany, 0)},
		{"an item and senders too many", sending(open(1, 7), posts(1, most)...), fault(api.ErrMany, 0)},
		{"1000 items and senders too many", sending(open(1000, upTo(1, 1000)...), posts(1, most-999)...), fault(api.ErrMany, 0)},
		{"senders and a getter too many", getting(sending(open(0), posts(1, most)...), post(most+1, 0, 0)), fault(api.ErrMany, 0)},
		{"items and getters too many", getting(open(2, 7, 8), posts(1, most-1)...), fault(api.ErrMany, 0)},
		{"Cap below 0", open(-1), fault(api.ErrRange, 0)},
		{"Cap far below 0", open(math.MinInt), fault(api.ErrRange, 0)},
		{"Cap of 1001", open(1001), fault(api.ErrRange, 0)},
		{"Cap far beyond", open(math.MaxInt, 1, 2), fault(api.ErrRange, 0)},
		{"Cap of 1001, full", open(1001, upTo(1, 1001)...), fault(api.ErrRange, 0)},
		{"Cap of 1001, closed", closed(open(1001)), fault(api.ErrRange, 0)},
		{"an item beyond Cap of 0", open(0, 7), fault(api.ErrSize, 0)},
		{"an item beyond Cap of 1", open(1, 7, 8), fault(api.ErrSize, 0)},
		{"an item beyond Cap of 1000", open(1000, upTo(1, 1001)...), fault(api.ErrSize, 0)},
		{"an item beyond Cap, closed", closed(open(2, 1, 2, 3)), fault(api.ErrSize, 0)},
		{"MaxList items", open(1000, upTo(1, most)...), fault(api.ErrSize, 0)},
	}
}

func wrongForms() []wrongPipe {
	one, other := post(1, 0, 5), post(2, 0, 0)
	return []wrongPipe{
		{"senders beside room", sending(open(1), one), fault(api.ErrForm, 0)},
		{"senders beside the last room", sending(open(3, 7, 8), one, other), fault(api.ErrForm, 0)},
		{"senders beside the last room of 1000", sending(open(1000, upTo(1, 999)...), one), fault(api.ErrForm, 0)},
		{"a sender, closed", sending(closed(open(1, 7)), one), fault(api.ErrForm, 0)},
		{"a sender, Cap 0, closed", sending(closed(open(0)), one), fault(api.ErrForm, 0)},
		{"a sender beside a getter", getting(sending(open(0), one), other), fault(api.ErrForm, 0)},
		{"a sender beside a getter, full", getting(sending(open(1, 7), one), other), fault(api.ErrForm, 0)},
		{"a getter beside an item", getting(open(1, 7), other), fault(api.ErrForm, 0)},
		{"a getter beside an item and room", getting(open(2, 7), other), fault(api.ErrForm, 0)},
		{"a getter, closed", getting(closed(open(1)), other), fault(api.ErrForm, 0)},
		{"a getter, Cap 0, closed", getting(closed(open(0)), other), fault(api.ErrForm, 0)},
		{"a getter with a value", getting(open(0), one), fault(api.ErrForm, 2)},
		{"a getter with a value below 0", getting(open(1), other, post(3, 0, -1)), fault(api.ErrForm, 2)},
		{"a getter between with a far value", getting(open(2), other, post(3, 0, math.MinInt), post(4, 0, 0)), fault(api.ErrForm, 2)},
		{"the last getter of MaxList with a value", getting(open(0), with(posts(1, api.MaxList), api.MaxList-1, post(api.MaxList, 0, 1))...), fault(api.ErrForm, 2)},
	}
}

func wrongTasks() []wrongPipe {
	const most = api.MaxList
	all := posts(1, most)
	return []wrongPipe{
		{"sender 0", sending(open(0), post(0, 0, 5)), fault(api.ErrRange, 1)},
		{"sender below 0", sending(open(1, 7), post(3, 0, 5), post(-1, 0, 5)), fault(api.ErrRange, 1)},
		{"sender far below", sending(open(0), post(math.MinInt, 0, 5)), fault(api.ErrRange, 1)},
		{"a sender's case below 0", sending(open(0), post(1, -1, 5)), fault(api.ErrRange, 1)},
		{"a sender's case far below", sending(open(1, 7), post(3, 0, 5), post(1, math.MinInt, 5)), fault(api.ErrRange, 1)},
		{"the last sender of MaxList", sending(open(0), with(all, most-1, post(0, 0, 0))...), fault(api.ErrRange, 1)},
		{"the last sender's case of MaxList", sending(open(0), with(all, most-1, post(most, -1, 0))...), fault(api.ErrRange, 1)},
		{"getter 0", getting(open(0), post(0, 0, 0)), fault(api.ErrRange, 2)},
		{"getter below 0", getting(open(1), post(3, 0, 0), post(-1, 0, 0)), fault(api.ErrRange, 2)},
		{"getter far below", getting(open(0), post(math.MinInt, 0, 0)), fault(api.ErrRange, 2)},
		{"a getter's case below 0", getting(open(0), post(1, -1, 0)), fault(api.ErrRange, 2)},
		{"a getter's case far below", getting(open(1), post(3, 0, 0), post(1, math.MinInt, 0)), fault(api.ErrRange, 2)},
		{"the last getter of MaxList", getting(open(0), with(all, most-1, post(-5, 0, 0))...), fault(api.ErrRange, 2)},
		{"the last getter's case of MaxList", getting(open(0), with(all, most-1, post(most, -5, 0))...), fault(api.ErrRange, 2)},
	}
}

func wrongTwice() []wrongPipe {
	const most = api.MaxList
	all := posts(1, most)
	return []wrongPipe{
		{"a sender just ahead", sending(open(0), post(4, 0, 5), post(4, 0, 5)), fault(api.ErrTwice, 1)},
		{"a sender ahead, by another case and value", sending(open(1, 7), post(4, 0, 5), post(1, 0, 5), post(4, 1, 6)), fault(api.ErrTwice, 1)},
		{"the farthest sender", sending(open(0), post(math.MaxInt, 0, 5), post(math.MaxInt, 0, 5)), fault(api.ErrTwice, 1)},
		{"the last sender of MaxList is the first", sending(open(0), with(all, most-1, post(1, 0, 5))...), fault(api.ErrTwice, 1)},
		{"a getter just ahead", getting(open(0), post(4, 0, 0), post(4, 0, 0)), fault(api.ErrTwice, 2)},
		{"a getter ahead, by another case", getting(open(3), post(4, 0, 0), post(1, 0, 0), post(4, 1, 0)), fault(api.ErrTwice, 2)},
		{"the farthest getter", getting(open(0), post(math.MaxInt, 0, 0), post(math.MaxInt, 0, 0)), fault(api.ErrTwice, 2)},
		{"the last getter of MaxList is the first", getting(open(0), with(all, most-1, post(1, 0, 0))...), fault(api.ErrTwice, 2)},
	}
}

// wrongTwofold are pipes with more than one thing wrong.
func wrongTwofold() []wrongPipe {
	const most = api.MaxList
	many := make([]api.Post, most+1)
	return []wrongPipe{
		{"too many ahead of Cap", sending(open(-1), many...), fault(api.ErrMany, 0)},
		{"too many ahead of items beyond Cap", open(1, upTo(1, most+1)...), fault(api.ErrMany, 0)},
		{"too many ahead of senders beside room", sending(open(1), many...), fault(api.ErrMany, 0)},
		{"too many ahead of closed", getting(closed(open(1)), many...), fault(api.ErrMany, 0)},
		{"Cap ahead of items beyond it", open(-1, 7), fault(api.ErrRange, 0)},
		{"Cap ahead of items far beyond it", open(1001, upTo(1, 1002)...), fault(api.ErrRange, 0)},
		{"Cap ahead of senders beside room", sending(open(1001, 7), post(1, 0, 5)), fault(api.ErrRange, 0)},
		{"Cap ahead of getters, closed", getting(closed(open(-1)), post(1, 0, 0)), fault(api.ErrRange, 0)},
		{"items beyond Cap ahead of senders, closed", sending(closed(open(1, 7, 8)), post(1, 0, 5)), fault(api.ErrSize, 0)},
		{"items beyond Cap ahead of getters", getting(open(0, 7), post(1, 0, 0)), fault(api.ErrSize, 0)},
		{"items beyond Cap ahead of a sender below 1", sending(open(0, 7), post(0, 0, 5)), fault(api.ErrSize, 0)},
		{"senders beside room ahead of one below 1", sending(open(1), post(0, 0, 5)), fault(api.ErrForm, 0)},
		{"senders beside room ahead of one twice", sending(open(1), post(1, 0, 5), post(1, 0, 5)), fault(api.ErrForm, 0)},
		{"one as a sender and a getter", getting(sending(open(0), post(1, 0, 5)), post(1, 0, 0)), fault(api.ErrForm, 0)},
		{"a sender beside a getter ahead of both below 1", getting(sending(open(0), post(0, 0, 5)), post(0, 0, 0)), fault(api.ErrForm, 0)},
		{"a getter beside an item ahead of its value", getting(open(1, 7), post(1, 0, 5)), fault(api.ErrForm, 0)},
		{"getters, closed, ahead of a case below 0", getting(closed(open(1)), post(1, -1, 0)), fault(api.ErrForm, 0)},
		{"below 1 ahead of twice at one sender", sending(open(0), post(0, 0, 5), post(0, 0, 5)), fault(api.ErrRange, 1)},
		{"a case below 0 ahead of twice at one sender", sending(open(0), post(1, 0, 5), post(1, -1, 5)), fault(api.ErrRange, 1)},
		{"an earlier sender below 1 ahead of a later one twice", sending(open(0), post(3, 0, 5), post(0, 0, 5), post(3, 0, 5)), fault(api.ErrRange, 1)},
		{"an earlier sender twice ahead of a later one below 1", sending(open(0), post(3, 0, 5), post(3, 0, 5), post(0, 0, 5)), fault(api.ErrTwice, 1)},
		{"an earlier sender twice ahead of a later case below 0", sending(open(0), post(3, 0, 5), post(3, 0, 5), post(4, -1, 5)), fault(api.ErrTwice, 1)},
		{"below 1 ahead of twice at one getter", getting(open(0), post(-1, 0, 0), post(-1, 0, 0)), fault(api.ErrRange, 2)},
		{"an earlier getter's case below 0 ahead of a later one twice", getting(open(0), post(3, 0, 0), post(4, -1, 0), post(3, 0, 0)), fault(api.ErrRange, 2)},
		{"an earlier getter twice ahead of a later one below 1", getting(open(0), post(3, 0, 0), post(3, 0, 0), post(0, 0, 0)), fault(api.ErrTwice, 2)},
		{"a getter below 1 ahead of an earlier one's value", getting(open(0), post(3, 0, 1), post(0, 0, 0)), fault(api.ErrRange, 2)},
		{"a getter's case below 0 ahead of an earlier one's value", getting(open(0), post(3, 0, 1), post(4, -1, 0)), fault(api.ErrRange, 2)},
		{"a getter twice ahead of an earlier one's value", getting(open(0), post(3, 0, 1), post(4, 0, 0), post(4, 0, 0)), fault(api.ErrTwice, 2)},
		{"a getter below 1 ahead of its own value", getting(open(0), post(0, 0, 1)), fault(api.ErrRange, 2)},
	}
}
