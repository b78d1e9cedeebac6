package pick_test

import (
	"fmt"
	"math"
	"math/rand"
	"slices"
	"testing"

	"taskmill/api"
	"taskmill/pick"
	"taskmill/pipe"
)

// couldDo: is the case ready, by what its pipe has?
func couldDo(l []api.Pipe, c api.Case) bool {
	switch {
	case c.Pipe == -1:
		return false
	case c.Send:
		p := l[c.Pipe]
		return p.Closed || len(p.Getters) > 0 || len(p.Items) < p.Cap
	}
	p := l[c.Pipe]
	return p.Closed || len(p.Items) > 0 || len(p.Senders) > 0
}

// wentTo is what chapter 5 makes of one case.
func wentTo(p api.Pipe, task int, c api.Case) (api.Pipe, api.Answer) {
	if c.Send {
		then, a, _ := pipe.Send(p, task, c.Value, false)
		return then, a
	}
	then, a, _ := pipe.Get(p, task, false)
	return then, a
}

// waitsBy: by which cases does a task wait at a pipe (one, or none)?
func waitsBy(p api.Pipe, task int) []api.Post {
	return slices.DeleteFunc(slices.Concat(p.Senders, p.Getters), func(one api.Post) bool { return one.Task != task })
}

// left is the hub that a task has left, pipe by pipe.
func left(l []api.Pipe, task int) []api.Pipe {
	l = slices.Clone(l)
	for i, p := range l {
		if len(waitsBy(p, task)) > 0 {
			l[i], _ = pipe.Leave(p, task)
		}
	}
	return l
}

func leftByAll(l []api.Pipe, wakes []api.Wake) []api.Pipe {
	for _, wake := range wakes {
		l = left(l, wake.Task)
	}
	return l
}

// pickByTheWords is what the document's words say of a choice that is right.
func pickByTheWords(l []api.Pipe, task int, cases []api.Case, order []int, def bool) ([]api.Pipe, api.Answer) {
	l = slices.Clone(l)
	for _, number := range order {
		if c := cases[number]; couldDo(l, c) {
			p, a := wentTo(l[c.Pipe], task, c)
			a.Case = number
			l[c.Pipe] = p
			return leftByAll(l, a.Wakes), a
		}
	}
	if def {
		return l, done(-1)
	}
	for number, c := range cases {
		if c.Pipe == -1 {
			continue
		}
		p, _ := wentTo(l[c.Pipe], task, c)
		if c.Send {
			p.Senders[len(p.Senders)-1].Case = number
		} else {
			p.Getters[len(p.Getters)-1].Case = number
		}
		l[c.Pipe] = p
	}
	return l, waiting
}

// anyPosts are some of the tasks 1 to 6.
func anyPosts(r *rand.Rand, values bool) []api.Post {
	var list []api.Post
	for _, task := range r.Perm(6)[:r.Intn(4)] {
		one := post(1+task, r.Intn(3), 0)
		if values {
			one.Value = r.Intn(5) - 2
		}
		list = append(list, one)
	}
	return list
}

// anyHub is a right one; tasks often wait at several of its pipes.
func anyHub(r *rand.Rand, n int) []api.Pipe {
	l := make([]api.Pipe, n)
	for i := range l {
		p := open(r.Intn(3))
		switch r.Intn(5) {
		case 0: // neither full nor empty, perhaps
			p.Items = upTo(10*i, r.Intn(p.Cap+1))
		case 1:
			p.Items, p.Closed = upTo(10*i, r.Intn(p.Cap+1)), true
		case 2, 3:
			p.Items = upTo(10*i, p.Cap)
			p.Senders = anyPosts(r, true)
		case 4:
			p.Getters = anyPosts(r, false)
		}
		l[i] = p
	}
	return l
}

// anyCases are some that go with a hub of n pipes.
func anyCases(r *rand.Rand, n int) []api.Case {
	var cases []api.Case
	for _, i := range r.Perm(n)[:r.Intn(n+1)] {
		c := gets(i)
		if r.Intn(2) == 0 {
			c = sends(i, r.Intn(5)-2)
		}
		if r.Intn(6) == 0 {
			c.Pipe = -1
		}
		cases = append(cases, c)
	}
	return cases
}

// P6.2 to P6.5, at many hubs: what the document's words say.
func TestByTheWords(t *testing.T) {
	r := rand.New(rand.NewSource(1))
	for range 4000 {
		n := r.Intn(6)
		l := anyHub(r, n)
		same(t, "the hub ahead", pick.Check(l), none)
		cases := anyCases(r, n)
		order, def := r.Perm(len(cases)), r.Intn(3) == 0
		want, answer := pickByTheWords(l, 100, cases, order, def)
		then, a, f := pick.Pick(l, 100, cases, order, def)
		same(t, "pick", fmt.Sprint(then, a, f, pick.Check(then)), fmt.Sprint(want, answer, none, none))
		for i := range l {
			p, answer, _ := pipe.Shut(l[i])
			then, a, f := pick.Shut(l, i)
			same(t, "shut", fmt.Sprint(then, a, f, pick.Check(then)), fmt.Sprint(leftByAll(with(l, i, p), answer.Wakes), answer, none, none))
		}
		for task := 1; task <= 7; task++ {
			leaveByTheWords(t, l, task)
		}
	}
}

func leaveByTheWords(t *testing.T, l []api.Pipe, task int) {
	t.Helper()
	then, f := pick.Leave(l, task)
	if !slices.ContainsFunc(l, func(p api.Pipe) bool { return len(waitsBy(p, task)) > 0 }) {
		same(t, "leave", fmt.Sprint(then, f), fmt.Sprint([]api.Pipe{}, fault(api.ErrNone, 0)))
		return
	}
	same(t, "leave", fmt.Sprint(then, f, pick.Check(then)), fmt.Sprint(left(l, task), none, none))
}

// permutations are all orders of n cases.
func permutations(n int) [][]int {
	if n == 0 {
		return [][]int{{}}
	}
	var list [][]int
	for _, rest := range permutations(n - 1) {
		for i := range n {
			list = append(list, slices.Insert(slices.Clone(rest), i, n-1))
		}
	}
	return list
}

// What follows: each case that is Ready is done by some order: by all that begin with it; and no other one is done by any.
func TestReadyIsDoneBySomeOrder(t *testing.T) {
	r := rand.New(rand.NewSource(2))
	for range 400 {
		n := r.Intn(5)
		l, cases := anyHub(r, n), anyCases(r, n)
		ready, f := pick.Ready(l, 100, cases)
		same(t, "ready", f, none)
		var did []int
		for _, order := range permutations(len(cases)) {
			_, a, _ := pick.Pick(l, 100, cases, order, true)
			did = append(did, a.Case)
			if len(order) > 0 && slices.Contains(ready, order[0]) {
				same(t, "it comes first", a.Case, order[0])
			}
		}
		slices.Sort(did)
		did = slices.Compact(did)
		if len(ready) == 0 {
			ready = []int{-1}
		}
		same(t, "what is done by some order", did, ready)
	}
}

// What follows: a choice of one case is chapter 5's Send or Get, its faults among them.
func TestOneCaseIsSendOrGet(t *testing.T) {
	r := rand.New(rand.NewSource(3))
	pipes := anyHub(r, 500)
	pipes = append(pipes, sending(open(0), posts(1, api.MaxList)...), getting(open(1), posts(1, api.MaxList)...))
	for _, p := range pipes {
		for _, task := range []int{1, 2, 3, 9000, 0} {
			for _, c := range []api.Case{gets(0), sends(0, 5)} {
				oneCaseIs(t, p, task, c)
			}
		}
	}
}

func oneCaseIs(t *testing.T, p api.Pipe, task int, c api.Case) {
	t.Helper()
	want, answer, wrong := pipe.Send(p, task, c.Value, false)
	if !c.Send {
		want, answer, wrong = pipe.Get(p, task, false)
	}
	then, a, f := pick.Pick(hub(p), task, choice(c), []int{0}, false)
	if wrong != none {
		same(t, "its fault", f, wrong)
		bare(t, "its fault", then, a)
		return
	}
	same(t, "its choice", fmt.Sprint(then, a, f), fmt.Sprint(hub(want), answer, none))
}

// casesOf are the cases by which a task waits, as the hub tells them.
func casesOf(l []api.Pipe, task int) []api.Case {
	var cases []api.Case
	for i, p := range l {
		for _, one := range waitsBy(p, task) {
			cases = append(cases, api.Case{Pipe: i, Send: len(p.Senders) > 0, Value: one.Value})
		}
	}
	return cases
}

// settledHub asks that nobody waits who has a case that is ready.
func settledHub(t *testing.T, l []api.Pipe, tasks int) {
	t.Helper()
	same(t, "the hub then", pick.Check(l), none)
	for task := 1; task <= tasks; task++ {
		cases := casesOf(l, task)
		if len(cases) == 0 {
			continue
		}
		ready, f := pick.Ready(left(l, task), task, cases)
		same(t, "somebody waits who need not", fmt.Sprint(ready, f), fmt.Sprint([]int{}, none))
	}
}

// What follows, in long runs: nobody waits who has a case that is ready; whoever was woken waits nowhere.
func TestRuns(t *testing.T) {
	const tasks = 9
	for seed := range 40 {
		r := rand.New(rand.NewSource(int64(seed)))
		l := hub(open(0), open(1), open(2), open(0))
		woken, waited := 0, 0
		for range 300 {
			task := 1 + r.Intn(tasks)
			var a api.Answer
			switch busy := len(casesOf(l, task)) > 0; {
			case r.Intn(60) == 0:
				l, a, _ = pick.Shut(l, r.Intn(len(l)))
			case busy && r.Intn(5) == 0:
				l, _ = pick.Leave(l, task)
			case !busy:
				cases := anyCases(r, len(l))
				l, a, _ = pick.Pick(l, task, cases, r.Perm(len(cases)), r.Intn(9) == 0)
				waited += len(casesOf(l, task))
			}
			for _, wake := range a.Wakes {
				woken++
				same(t, "woken, and waits", casesOf(l, wake.Task), []api.Case{})
			}
			settledHub(t, l, tasks)
		}
		if woken < 1 || waited < 3 {
			t.Errorf("run %d: %d were woken, %d waited", seed, woken, waited)
		}
	}
}

// wildNumber is mostly a small one, at times one of the farthest.
func wildNumber(r *rand.Rand) int {
	far := []int{math.MinInt, math.MaxInt, -1, -2, 0, 1001, 1 << 32}
	if r.Intn(20) == 0 {
		return far[r.Intn(len(far))]
	}
	return r.Intn(7)
}

// wildHub is mostly a right one, but for a number here and there.
func wildHub(r *rand.Rand) []api.Pipe {
	n := r.Intn(7)
	if r.Intn(20) == 0 {
		n = 19 + r.Intn(3)
	}
	l := anyHub(r, n)
	if n > 0 && r.Intn(3) == 0 {
		p := &l[r.Intn(n)]
		switch r.Intn(5) {
		case 0:
			p.Cap = wildNumber(r)
		case 1:
			p.Closed = true
		case 2:
			p.Items = append(p.Items, wildNumber(r))
		case 3:
			p.Senders = append(p.Senders, post(wildNumber(r), wildNumber(r), wildNumber(r)))
		case 4:
			p.Getters = append(p.Getters, post(wildNumber(r), wildNumber(r), wildNumber(r)/6))
		}
	}
	return l
}

// wildChoice is mostly one that goes with n pipes.
func wildChoice(r *rand.Rand, n int) ([]api.Case, []int) {
	cases := anyCases(r, n)
	for range r.Intn(3) / 2 {
		cases = append(cases, api.Case{Pipe: wildNumber(r), Send: r.Intn(2) == 0, Value: wildNumber(r)})
	}
	if r.Intn(30) == 0 {
		cases = append(cases, make([]api.Case, 20)...)
	}
	order := r.Perm(len(cases))
	if len(order) > 0 && r.Intn(6) == 0 {
		order[r.Intn(len(order))] = wildNumber(r)
	}
	if r.Intn(20) == 0 {
		order = append(order, wildNumber(r))
	}
	return cases, order
}

// P1: no call panics whatever it is given, each answers the same again, and with a fault there is nothing else.
func TestWildInputs(t *testing.T) {
	r := rand.New(rand.NewSource(4))
	faults := map[api.Fault]int{}
	for range 20000 {
		l, task, i, def := wildHub(r), 2*wildNumber(r), wildNumber(r), r.Intn(2) == 0
		cases, order := wildChoice(r, len(l))
		same(t, "again", tellAll(t, l, task, i, cases, order, def), tellAll(t, l, task, i, cases, order, def))
		_, _, f := pick.Pick(l, task, cases, order, def)
		faults[f]++
		if f.Code == api.ErrSize && f.At == -1 {
			_, f = pick.Ready(l, task, cases)
			same(t, "order is none of Ready's", f, none)
		}
	}
	for _, f := range []api.Fault{none, fault(api.ErrRange, -1), fault(api.ErrTwice, -1), fault(api.ErrMany, -1), fault(api.ErrSize, -1),
		fault(api.ErrMany, 0), fault(api.ErrForm, 1), fault(api.ErrRange, 1), fault(api.ErrTwice, 1)} {
		if faults[f] < 20 {
			t.Errorf("not all kinds were asked: %v of %v", faults[f], f)
		}
	}
}

func tellAll(t *testing.T, l []api.Pipe, task, i int, cases []api.Case, order []int, def bool) string {
	wrong := pick.Check(l)
	ask := func(what string, then []api.Pipe, a api.Answer, f api.Fault) string {
		if f != none {
			bare(t, what, then, a)
		} else {
			same(t, what+": the hub then", pick.Check(then), none)
		}
		if wrong != none {
			same(t, what+": what Check says", f, wrong)
		}
		return fmt.Sprintln(f, then, a)
	}
	then, a, f := pick.Pick(l, task, cases, order, def)
	text := ask("pick", then, a, f)
	then, a, f = pick.Shut(l, i)
	text += ask("shut", then, a, f)
	then, f = pick.Leave(l, task)
	text += ask("leave", then, api.Answer{}, f)
	numbers, f := pick.Ready(l, task, cases)
	if f != none {
		same(t, "ready: beside the fault", numbers, []int{})
	}
	return text + ask("ready", nil, api.Answer{}, f) + fmt.Sprint(numbers)
}
