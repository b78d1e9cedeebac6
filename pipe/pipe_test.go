package pipe_test

import (
	"fmt"
	"math"
	"testing"

	"taskmill/api"
	"taskmill/pipe"
)

// The chapter's examples.
func TestExamples(t *testing.T) {
	p, a, f := pipe.Get(api.Pipe{}, 1, false)
	same(t, "get", fmt.Sprint(p, a, f), "{0 [] false [] [{1 0 0}]} {false false false 0 0 []} {0 0}")
	p, a, f = pipe.Send(p, 2, 7, false)
	same(t, "send", fmt.Sprint(p, a, f), "{0 [] false [] []} {true false false 0 0 [{1 0 7 true false}]} {0 0}")
}

// P5.1: what is right has no fault.
func TestCheckRight(t *testing.T) {
	const most = api.MaxList
	thousand := upTo(-500, 1000)
	rows := []struct {
		what string
		p    api.Pipe
	}{
		{"nothing", api.Pipe{}},
		{"empty lists", api.Pipe{Items: []int{}, Senders: []api.Post{}, Getters: []api.Post{}}},
		{"Cap of 0, closed", closed(open(0))},
		{"Cap of 1, empty", open(1)},
		{"Cap of 1, full", open(1, 7)},
		{"Cap of 1, full and closed", closed(open(1, 7))},
		{"one room is left", open(2, 7)},
		{"Cap of 1000, empty", open(1000)},
		{"Cap of 1000, full", open(1000, thousand...)},
		{"Cap of 1000, full and closed", closed(open(1000, thousand...))},
		{"Cap of 1000, one room is left", open(1000, thousand[:999]...)},
		{"values that are the same, and the farthest", open(4, 7, 7, math.MinInt, math.MaxInt)},
		{"senders at Cap of 0", sending(open(0), post(2, 0, 5), post(1, 3, 5))},
		{"senders at a full one", sending(open(2, 7, 8), post(2, 0, 0), post(1, 0, -5))},
		{"a sender whose number is an item", sending(open(1, 1), post(1, 1, 1))},
		{"the farthest sender", sending(open(0), post(math.MaxInt, math.MaxInt, math.MinInt), post(1, 0, math.MaxInt))},
		{"getters at Cap of 0", getting(open(0), post(2, 0, 0), post(1, 3, 0))},
		{"getters at an empty one", getting(open(1000), post(2, 0, 0))},
		{"the farthest getter", getting(open(1), post(math.MaxInt, math.MaxInt, 0), post(1, 0, 0))},
		{"MaxList senders", sending(open(0), posts(1, most)...)},
		{"MaxList getters", getting(open(1), posts(1, most)...)},
		{"MaxList items and senders", sending(open(1000, thousand...), posts(1, most-1000)...)},
		{"MaxList with one item", sending(open(1, 7), posts(1, most-1)...)},
	}
	for _, r := range rows {
		same(t, r.what, pipe.Check(r.p), none)
	}
}

// P5.1: each fault, its place, and which is answered where several apply.
func TestCheckFaults(t *testing.T) {
	for _, w := range wrongs() {
		same(t, w.what, pipe.Check(w.p), w.want)
	}
}

// P5.4: the pipe then, and who is woken how.
func TestShut(t *testing.T) {
	three := []api.Post{post(9, 2, 5), post(1, 0, 6), post(math.MaxInt, math.MaxInt, 7)}
	rows := []struct {
		what string
		p    api.Pipe
		then api.Pipe
		a    api.Answer
	}{
		{"neither, Cap of 0", open(0), closed(open(0)), done()},
		{"neither, empty", open(3), closed(open(3)), done()},
		{"neither, with items", open(3, 7, 8), closed(open(3, 7, 8)), done()},
		{"neither, full", open(2, 7, 8), closed(open(2, 7, 8)), done()},
		{"one getter", getting(open(0), post(4, 0, 0)), closed(open(0)), done(goesOn(4, 0))},
		{"getters in their order, with their cases", getting(open(2), post(9, 2, 0), post(1, 0, 0), post(4, 1, 0)), closed(open(2)), done(goesOn(9, 2), goesOn(1, 0), goesOn(4, 1))},
		{"one sender", sending(open(0), post(4, 0, 5)), closed(open(0)), done(goesDown(4, 0))},
		{"senders in their order, with their cases", sending(open(1, 7), three...), closed(open(1, 7)), done(goesDown(9, 2), goesDown(1, 0), goesDown(math.MaxInt, math.MaxInt))},
		{"closed, empty", closed(open(3)), closed(open(3)), panics},
		{"closed, Cap of 0", closed(open(0)), closed(open(0)), panics},
		{"closed, with items", closed(open(3, 7, 8)), closed(open(3, 7, 8)), panics},
	}
	for _, r := range rows {
		then, a, f := pipe.Shut(r.p)
		same(t, r.what, fmt.Sprint(then, a, f), fmt.Sprint(r.then, r.a, none))
	}
}

// P5.4: as many as there may be; and what Check says.
func TestShutLimitsAndFaults(t *testing.T) {
	const most = api.MaxList
	var quiet, loud []api.Wake
	for task := range most {
		quiet = append(quiet, goesOn(task+1, 0))
		loud = append(loud, goesDown(task+1, 0))
	}
	then, a, f := pipe.Shut(getting(open(0), posts(1, most)...))
	same(t, "MaxList getters", fmt.Sprint(then, a, f), fmt.Sprint(closed(open(0)), done(quiet...), none))
	then, a, f = pipe.Shut(sending(open(0), posts(1, most)...))
	same(t, "MaxList senders", fmt.Sprint(then, a, f), fmt.Sprint(closed(open(0)), done(loud...), none))
	full := open(1000, upTo(1, 1000)...)
	then, a, f = pipe.Shut(sending(full, posts(1, most-1000)...))
	same(t, "MaxList items and senders", fmt.Sprint(then, a, f), fmt.Sprint(closed(full), done(loud[:most-1000]...), none))
	for _, w := range wrongs() {
		then, a, f := pipe.Shut(w.p)
		same(t, w.what, f, w.want)
		bare(t, w.what, then, a)
	}
}

// P5.5: the pipe then.
func TestLeave(t *testing.T) {
	const most = api.MaxList
	three := []api.Post{post(9, 2, 5), post(1, 0, 6), post(math.MaxInt, 1, 7)}
	gets := []api.Post{post(9, 2, 0), post(1, 0, 0), post(math.MaxInt, 1, 0)}
	full, empty, all := open(1, 7), open(4), posts(1, most)
	rows := []struct {
		what string
		p    api.Pipe
		task int
		then api.Pipe
	}{
		{"the first sender", sending(full, three...), 9, sending(full, three[1:]...)},
		{"a sender between", sending(full, three...), 1, sending(full, three[0], three[2])},
		{"the last sender", sending(full, three...), math.MaxInt, sending(full, three[:2]...)},
		{"the only sender, Cap of 0", sending(open(0), three[0]), 9, open(0)},
		{"the first getter", getting(empty, gets...), 9, getting(empty, gets[1:]...)},
		{"a getter between", getting(empty, gets...), 1, getting(empty, gets[0], gets[2])},
		{"the last getter", getting(empty, gets...), math.MaxInt, getting(empty, gets[:2]...)},
		{"the only getter, Cap of 0", getting(open(0), gets[0]), 9, open(0)},
		{"the first of MaxList senders", sending(open(0), all...), 1, sending(open(0), all[1:]...)},
		{"the last of MaxList getters", getting(open(0), all...), most, getting(open(0), all[:most-1]...)},
	}
	for _, r := range rows {
		then, f := pipe.Leave(r.p, r.task)
		same(t, r.what, fmt.Sprint(then, f), fmt.Sprint(r.then, none))
	}
}

// P5.5: each fault.
func TestLeaveFaults(t *testing.T) {
	pipes := []api.Pipe{
		{},
		open(3, 2, 5),
		closed(open(3, 2, 5)),
		closed(open(0)),
		sending(open(1, 2), post(1, 2, 5), post(3, 4, 6)),
		getting(open(2), post(1, 2, 0), post(3, 4, 0)),
		sending(open(0), posts(9, api.MaxList)...),
	}
	for _, p := range pipes {
		for _, task := range []int{2, 4, 5, 0, -1, math.MinInt, math.MaxInt} {
			then, f := pipe.Leave(p, task)
			same(t, fmt.Sprint("it doesn't wait: ", task), f, fault(api.ErrNone, 0))
			bare(t, "it doesn't wait", then, waiting)
		}
	}
	for _, w := range wrongs() { // whether the task waits or not
		for _, task := range []int{1, 9 * api.MaxList, 0} {
			then, f := pipe.Leave(w.p, task)
			same(t, w.what, f, w.want)
			bare(t, w.what, then, waiting)
		}
	}
}
