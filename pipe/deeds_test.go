package pipe_test

import (
	"fmt"
	"math"
	"testing"

	"taskmill/api"
	"taskmill/pipe"
)

// deed is what a Send, or a Get, does: with try as without, where it is Done.
type deed struct {
	what string
	p    api.Pipe
	then api.Pipe
	a    api.Answer
}

// P5.2: the pipe then, and the answer, of what is Done.
func TestSendDone(t *testing.T) {
	two := []api.Post{post(4, 3, 0), post(9, 0, 0)}
	rows := []deed{
		{"a getter alone, Cap of 0", getting(open(0), two[0]), open(0), done(goesOnWith(4, 3, 7))},
		{"the first of two getters, Cap of 0", getting(open(0), two...), getting(open(0), two[1]), done(goesOnWith(4, 3, 7))},
		{"the first of two getters, ahead of room", getting(open(2), two...), getting(open(2), two[1]), done(goesOnWith(4, 3, 7))},
		{"a getter without a case's number", getting(open(2), two[1]), open(2), done(goesOnWith(9, 0, 7))},
		{"the farthest getter", getting(open(2), post(math.MaxInt, math.MaxInt, 0)), open(2), done(goesOnWith(math.MaxInt, math.MaxInt, 7))},
		{"room in an empty one", open(1), open(1, 7), done()},
		{"room behind items", open(3, 5), open(3, 5, 7), done()},
		{"the last room", open(3, 5, 6), open(3, 5, 6, 7), done()},
		{"the same value again", open(3, 7, 7), open(3, 7, 7, 7), done()},
		{"closed, empty", closed(open(3)), closed(open(3)), panics},
		{"closed, Cap of 0", closed(open(0)), closed(open(0)), panics},
		{"closed, with items and room", closed(open(3, 5)), closed(open(3, 5)), panics},
		{"closed, full", closed(open(1, 5)), closed(open(1, 5)), panics},
	}
	for _, r := range rows {
		for _, try := range []bool{false, true} {
			then, a, f := pipe.Send(r.p, 3, 7, try)
			same(t, fmt.Sprint(r.what, ", try ", try), fmt.Sprint(then, a, f), fmt.Sprint(r.then, r.a, none))
		}
	}
}

// P5.2: without room, and nobody who gets: the task waits, or, with try, nothing is done.
func TestSendWaits(t *testing.T) {
	three := []api.Post{post(4, 2, 5), post(9, 0, 6), post(3, 0, 7)}
	rows := []deed{
		{"Cap of 0", open(0), sending(open(0), three[2]), waiting},
		{"full", open(1, 5), sending(open(1, 5), three[2]), waiting},
		{"full, of two", open(2, 5, 6), sending(open(2, 5, 6), three[2]), waiting},
		{"behind another one", sending(open(1, 5), three[0]), sending(open(1, 5), three[0], three[2]), waiting},
		{"behind others", sending(open(0), three[:2]...), sending(open(0), three...), waiting},
	}
	for _, r := range rows {
		then, a, f := pipe.Send(r.p, 3, 7, false)
		same(t, r.what, fmt.Sprint(then, a, f), fmt.Sprint(r.then, r.a, none))
		then, a, f = pipe.Send(r.p, 3, 7, true)
		same(t, r.what+", try", fmt.Sprint(then, a, f), fmt.Sprint(r.p, waiting, none))
	}
}

// P5.2: any value, tasks from 1 to the farthest, and as many as there may be.
func TestSendLimits(t *testing.T) {
	const most = api.MaxList
	for _, value := range []int{0, -1, math.MinInt, math.MaxInt} {
		then, a, f := pipe.Send(open(1), 1, value, false)
		same(t, "a value into room", fmt.Sprint(then, a, f), fmt.Sprint(open(1, value), done(), none))
		then, a, f = pipe.Send(getting(open(1), post(2, 0, 0)), math.MaxInt, value, false)
		same(t, "a value to a getter", fmt.Sprint(then, a, f), fmt.Sprint(open(1), done(goesOnWith(2, 0, value)), none))
		then, a, f = pipe.Send(open(1, 4), math.MaxInt, value, false)
		same(t, "a value that waits", fmt.Sprint(then, a, f), fmt.Sprint(sending(open(1, 4), post(math.MaxInt, 0, value)), waiting, none))
	}
	thousand, all := upTo(1, 1000), posts(1, most)
	then, a, f := pipe.Send(open(1000, thousand[:999]...), 1, 1000, false)
	same(t, "the last room of 1000", fmt.Sprint(then, a, f), fmt.Sprint(open(1000, thousand...), done(), none))
	then, a, f = pipe.Send(open(1000, thousand...), 1, 0, false)
	same(t, "beyond 1000", fmt.Sprint(then, a, f), fmt.Sprint(sending(open(1000, thousand...), all[0]), waiting, none))
	then, a, f = pipe.Send(sending(open(0), all[:most-1]...), most, 0, false)
	same(t, "the last of MaxList", fmt.Sprint(then, a, f), fmt.Sprint(sending(open(0), all...), waiting, none))
	then, a, f = pipe.Send(getting(open(0), all[:most-1]...), most, 7, false)
	same(t, "to MaxList less one", fmt.Sprint(then, a, f), fmt.Sprint(getting(open(0), all[1:most-1]...), done(goesOnWith(1, 0, 7)), none))
}

// P5.3: the pipe then, and the answer, of what is Done.
func TestGetDone(t *testing.T) {
	two := []api.Post{post(4, 3, 8), post(9, 0, 9)}
	rows := []deed{
		{"the only item", open(1, 5), open(1), gave(5)},
		{"the first of items", open(3, 5, 6), open(3, 6), gave(5)},
		{"the first of a full one", open(3, 5, 6, 7), open(3, 6, 7), gave(5)},
		{"the item 0", open(1, 0), open(1), gave(0)},
		{"the farthest items", open(2, math.MinInt, math.MaxInt), open(2, math.MaxInt), gave(math.MinInt)},
		{"an item with a sender behind", sending(open(1, 5), two[0]), open(1, 8), gave(5, goesOn(4, 3))},
		{"an item with senders behind", sending(open(1, 5), two...), sending(open(1, 8), two[1]), gave(5, goesOn(4, 3))},
		{"items with senders behind", sending(open(3, 5, 6, 7), two...), sending(open(3, 6, 7, 8), two[1]), gave(5, goesOn(4, 3))},
		{"senders behind, without a case's number", sending(open(2, 5, 6), two[1]), open(2, 6, 9), gave(5, goesOn(9, 0))},
		{"a sender alone", sending(open(0), two[0]), open(0), gave(8, goesOn(4, 3))},
		{"the first of senders alone", sending(open(0), two...), sending(open(0), two[1]), gave(8, goesOn(4, 3))},
		{"a sender of 0 alone", sending(open(0), post(4, 3, 0)), open(0), gave(0, goesOn(4, 3))},
		{"the farthest sender", sending(open(0), post(math.MaxInt, math.MaxInt, math.MinInt)), open(0), gave(math.MinInt, goesOn(math.MaxInt, math.MaxInt))},
		{"closed, the only item", closed(open(1, 5)), closed(open(1)), gave(5)},
		{"closed, the first of items", closed(open(3, 5, 6)), closed(open(3, 6)), gave(5)},
		{"closed, empty", closed(open(3)), closed(open(3)), done()},
		{"closed, Cap of 0", closed(open(0)), closed(open(0)), done()},
	}
	for _, r := range rows {
		for _, try := range []bool{false, true} {
			then, a, f := pipe.Get(r.p, 3, try)
			same(t, fmt.Sprint(r.what, ", try ", try), fmt.Sprint(then, a, f), fmt.Sprint(r.then, r.a, none))
		}
	}
}

// P5.3: without items, and nobody who sends: the task waits, or, with try, nothing is done.
func TestGetWaits(t *testing.T) {
	three := []api.Post{post(4, 2, 0), post(9, 0, 0), post(3, 0, 0)}
	rows := []deed{
		{"Cap of 0", open(0), getting(open(0), three[2]), waiting},
		{"empty", open(5), getting(open(5), three[2]), waiting},
		{"behind another one", getting(open(1), three[0]), getting(open(1), three[0], three[2]), waiting},
		{"behind others", getting(open(0), three[:2]...), getting(open(0), three...), waiting},
	}
	for _, r := range rows {
		then, a, f := pipe.Get(r.p, 3, false)
		same(t, r.what, fmt.Sprint(then, a, f), fmt.Sprint(r.then, r.a, none))
		then, a, f = pipe.Get(r.p, 3, true)
		same(t, r.what+", try", fmt.Sprint(then, a, f), fmt.Sprint(r.p, waiting, none))
	}
}

// P5.3: tasks from 1 to the farthest, and as many as there may be.
func TestGetLimits(t *testing.T) {
	const most = api.MaxList
	thousand, all := upTo(1, 1001), posts(1, most)
	for _, task := range []int{1, math.MaxInt} {
		then, a, f := pipe.Get(open(1), task, false)
		same(t, "who gets", fmt.Sprint(then, a, f), fmt.Sprint(getting(open(1), post(task, 0, 0)), waiting, none))
	}
	then, a, f := pipe.Get(open(1000, thousand[:1000]...), 1, false)
	same(t, "the first of 1000", fmt.Sprint(then, a, f), fmt.Sprint(open(1000, thousand[1:1000]...), gave(1), none))
	then, a, f = pipe.Get(sending(open(1000, thousand[:1000]...), post(2, 1, 1001)), 1, false)
	same(t, "the first of 1000, one behind", fmt.Sprint(then, a, f), fmt.Sprint(open(1000, thousand[1:]...), gave(1, goesOn(2, 1)), none))
	then, a, f = pipe.Get(getting(open(0), all[:most-1]...), most, false)
	same(t, "the last of MaxList", fmt.Sprint(then, a, f), fmt.Sprint(getting(open(0), all...), waiting, none))
	then, a, f = pipe.Get(sending(open(0), all[:most-1]...), most, false)
	same(t, "from MaxList less one", fmt.Sprint(then, a, f), fmt.Sprint(sending(open(0), all[1:most-1]...), gave(0, goesOn(1, 0)), none))
}

// wrongDeed is a Send and a Get by a task that have the same fault, with try as without.
type wrongDeed struct {
	what string
	p    api.Pipe
	task int
	want api.Fault
}

func wrongDeeds() []wrongDeed {
	const most = api.MaxList
	senders := sending(open(1, 6), post(3, 0, 5), post(1, 4, 5), post(2, 0, 5))
	getters := getting(open(1), post(3, 0, 0), post(1, 4, 0), post(2, 0, 0))
	full, gone := sending(open(1000, upTo(1, 1000)...), posts(1, most-1000)...), closed(open(1, 5))
	return []wrongDeed{
		{"task 0", open(1), 0, fault(api.ErrRange, -1)},
		{"task below 0", senders, -1, fault(api.ErrRange, -1)},
		{"task far below", getters, math.MinInt, fault(api.ErrRange, -1)},
		{"task 0, closed", gone, 0, fault(api.ErrRange, -1)},
		{"the first sender", senders, 3, fault(api.ErrTwice, -1)},
		{"a sender between", senders, 1, fault(api.ErrTwice, -1)},
		{"the last sender", senders, 2, fault(api.ErrTwice, -1)},
		{"the first getter", getters, 3, fault(api.ErrTwice, -1)},
		{"a getter between", getters, 1, fault(api.ErrTwice, -1)},
		{"the last getter", getters, 2, fault(api.ErrTwice, -1)},
		{"MaxList items and senders", full, most + 1, fault(api.ErrMuch, 0)},
		{"MaxList senders", sending(open(0), posts(1, most)...), most + 1, fault(api.ErrMuch, 0)},
		{"MaxList getters", getting(open(2), posts(1, most)...), math.MaxInt, fault(api.ErrMuch, 0)},
		{"MaxList with one item", sending(open(1, 7), posts(1, most-1)...), most, fault(api.ErrMuch, 0)},
		{"below 1 ahead of much", full, 0, fault(api.ErrRange, -1)},
		{"a sender ahead of much", full, most - 1000, fault(api.ErrTwice, -1)},
		{"a getter ahead of much", getting(open(2), posts(1, most)...), most, fault(api.ErrTwice, -1)},
	}
}

// P5.2, P5.3: each fault, its place, and the order where several apply.
func TestSendGetFaults(t *testing.T) {
	rows := wrongDeeds()
	for _, w := range wrongs() {
		for _, task := range []int{9 * api.MaxList, 0, 1} {
			rows = append(rows, wrongDeed{fmt.Sprint(w.what, ", ahead of task ", task), w.p, task, w.want})
		}
	}
	for _, r := range rows {
		for _, try := range []bool{false, true} {
			then, a, f := pipe.Send(r.p, r.task, 7, try)
			same(t, "send: "+r.what, f, r.want)
			bare(t, "send: "+r.what, then, a)
			then, a, f = pipe.Get(r.p, r.task, try)
			same(t, "get: "+r.what, f, r.want)
			bare(t, "get: "+r.what, then, a)
		}
	}
}

// A number that is an item, a case or a value is not a task that waits.
func TestOthersNumbersAreFree(t *testing.T) {
	p := sending(open(1, 6), post(3, 4, 5))
	for _, task := range []int{6, 4, 5, 1} {
		then, a, f := pipe.Send(p, task, 7, false)
		same(t, "send", fmt.Sprint(then, a, f), fmt.Sprint(sending(open(1, 6), post(3, 4, 5), post(task, 0, 7)), waiting, none))
		then, a, f = pipe.Get(p, task, false)
		same(t, "get", fmt.Sprint(then, a, f), fmt.Sprint(open(1, 5), gave(6, goesOn(3, 4)), none))
	}
}
