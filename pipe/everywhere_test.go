package pipe_test

import (
	"fmt"
	"math"
	"math/rand"
	"slices"
	"testing"

	"taskmill/api"
	"taskmill/pipe"
)

// model is one queue of all values that were sent and not got: the first Cap of them are in the pipe, whoever sent
// the others waits. An item's post has the task 0.
type model struct {
	size    int
	closed  bool
	queue   []api.Post
	getters []api.Post
}

func modelOf(p api.Pipe) model {
	m := model{size: p.Cap, closed: p.Closed}
	for _, value := range p.Items {
		m.queue = append(m.queue, post(0, 0, value))
	}
	m.queue = append(m.queue, p.Senders...)
	m.getters = append(m.getters, p.Getters...)
	return m
}

func (m *model) pipe() api.Pipe {
	p := api.Pipe{Cap: m.size, Closed: m.closed, Getters: m.getters}
	for i, one := range m.queue {
		if i < m.size {
			p.Items = append(p.Items, one.Value)
		} else {
			p.Senders = append(p.Senders, one)
		}
	}
	return p
}

func (m *model) waits(task int) bool {
	return slices.ContainsFunc(slices.Concat(m.queue, m.getters), func(one api.Post) bool { return one.Task == task })
}

// settle has getters go who need not wait, and senders whose values have come into the pipe: who is woken.
func (m *model) settle() []api.Wake {
	var wakes []api.Wake
	for len(m.getters) > 0 && len(m.queue) > 0 {
		wakes = append(wakes, goesOnWith(m.getters[0].Task, m.getters[0].Case, m.queue[0].Value))
		m.getters, m.queue = m.getters[1:], m.queue[1:]
	}
	for i := range min(m.size, len(m.queue)) {
		if one := m.queue[i]; one.Task > 0 {
			wakes = append(wakes, goesOn(one.Task, one.Case))
			m.queue[i] = post(0, 0, one.Value)
		}
	}
	return wakes
}

func (m *model) send(task, value int, try bool) api.Answer {
	if m.closed {
		return panics
	}
	if try && len(m.getters) == 0 && len(m.queue) >= m.size {
		return waiting
	}
	m.queue = append(m.queue, post(task, 0, value))
	wakes := m.settle()
	if m.waits(task) {
		return waiting
	}
	wakes = slices.DeleteFunc(wakes, func(wake api.Wake) bool { return wake.Task == task })
	return done(wakes...)
}

func (m *model) get(task int, try bool) api.Answer {
	if len(m.queue) == 0 {
		if !m.closed && !try {
			m.getters = append(m.getters, post(task, 0, 0))
		}
		return api.Answer{Done: m.closed}
	}
	gone := m.queue[0]
	m.queue = slices.Clone(m.queue[1:])
	wakes := m.settle()
	if gone.Task > 0 {
		wakes = append([]api.Wake{goesOn(gone.Task, gone.Case)}, wakes...)
	}
	return gave(gone.Value, wakes...)
}

func (m *model) shut() api.Answer {
	if m.closed {
		return panics
	}
	var wakes []api.Wake
	for _, one := range m.getters {
		wakes = append(wakes, goesOn(one.Task, one.Case))
	}
	for _, one := range m.queue[min(m.size, len(m.queue)):] {
		wakes = append(wakes, goesDown(one.Task, one.Case))
	}
	m.closed, m.getters, m.queue = true, nil, m.queue[:min(m.size, len(m.queue))]
	return done(wakes...)
}

func (m *model) leave(task int) {
	isIt := func(one api.Post) bool { return one.Task == task }
	m.queue = slices.DeleteFunc(m.queue, isIt)
	m.getters = slices.DeleteFunc(m.getters, isIt)
}

// anyPipe is a right one, with at most so many of each kind.
func anyPipe(r *rand.Rand, most int) api.Pipe {
	p := api.Pipe{Cap: r.Intn(most + 1), Closed: r.Intn(4) == 0}
	room := r.Intn(p.Cap + 1)
	if r.Intn(2) == 0 {
		room = 0
	}
	for range p.Cap - room {
		p.Items = append(p.Items, r.Intn(5)-2)
	}
	gets := len(p.Items) == 0 && (room > 0 || r.Intn(2) == 0)
	tasks := r.Perm(3 * most)
	for range r.Intn(most + 1) {
		one := post(1+tasks[0], r.Intn(3), r.Intn(5)-2)
		tasks = tasks[1:]
		switch {
		case p.Closed:
		case gets:
			p.Getters = append(p.Getters, post(one.Task, one.Case, 0))
		case room == 0:
			p.Senders = append(p.Senders, one)
		}
	}
	return p
}

// P5.2 to P5.5, at many pipes: what the document's words say of values and tasks.
func TestByTheWords(t *testing.T) {
	r := rand.New(rand.NewSource(1))
	for range 5000 {
		p := anyPipe(r, 1+r.Intn(4))
		same(t, "the pipe ahead", pipe.Check(p), none)
		for _, try := range []bool{false, true} {
			m := modelOf(p)
			want := m.send(100, 7, try)
			then, a, f := pipe.Send(p, 100, 7, try)
			same(t, "send", fmt.Sprint(then, a, f, pipe.Check(then)), fmt.Sprint(m.pipe(), want, none, none))
			m = modelOf(p)
			want = m.get(100, try)
			then, a, f = pipe.Get(p, 100, try)
			same(t, "get", fmt.Sprint(then, a, f, pipe.Check(then)), fmt.Sprint(m.pipe(), want, none, none))
		}
		m := modelOf(p)
		want := m.shut()
		then, a, f := pipe.Shut(p)
		same(t, "shut", fmt.Sprint(then, a, f, pipe.Check(then)), fmt.Sprint(m.pipe(), want, none, none))
		for task := 1; task <= 13; task++ {
			leaveByTheWords(t, p, task)
		}
	}
}

func leaveByTheWords(t *testing.T, p api.Pipe, task int) {
	t.Helper()
	m := modelOf(p)
	then, f := pipe.Leave(p, task)
	if !m.waits(task) {
		same(t, "leave", fmt.Sprint(then, f), fmt.Sprint(api.Pipe{}, fault(api.ErrNone, 0)))
		return
	}
	m.leave(task)
	same(t, "leave", fmt.Sprint(then, f, pipe.Check(then)), fmt.Sprint(m.pipe(), none, none))
}

// run is a pipe at which tasks send 1, 2, 3 and so on, and get; got are the values that came out, in their order.
type run struct {
	p         api.Pipe
	next, got int
	left      map[int]bool // the values of those who left
}

// told asks that a value comes behind all that came out ahead, and that none but those who left is passed over.
func (w *run) told(t *testing.T, value int) {
	t.Helper()
	for w.got++; w.left[w.got]; w.got++ {
	}
	if value != w.got {
		t.Fatalf("got %d, want %d", value, w.got)
	}
}

func (w *run) send(t *testing.T, task int, try bool) {
	then, a, _ := pipe.Send(w.p, task, w.next, try)
	w.p = then
	if a.Done || !try {
		w.next++
	}
	for _, wake := range a.Wakes {
		w.told(t, wake.Value)
	}
}

func (w *run) get(t *testing.T, task int, try bool) {
	then, a, _ := pipe.Get(w.p, task, try)
	w.p = then
	if a.Ok {
		w.told(t, a.Value)
	}
}

func (w *run) leave(r *rand.Rand) {
	all := slices.Concat(w.p.Senders, w.p.Getters)
	if len(all) == 0 {
		return
	}
	one := all[r.Intn(len(all))]
	if one.Value > 0 {
		w.left[one.Value] = true
	}
	w.p, _ = pipe.Leave(w.p, one.Task)
}

// What follows: values are got in the order in which they were sent, each once; never are there senders beside room,
// nor getters beside items.
func TestFirstInFirstOut(t *testing.T) {
	for size := range 6 {
		r := rand.New(rand.NewSource(int64(size)))
		w := run{p: open(size), next: 1, left: map[int]bool{}}
		for task := 1; task <= 4000; task++ {
			switch k := r.Intn(20); {
			case k == 0:
				w.leave(r)
			case (k+task/100)%2 == 0 || k < 3: // at times more come to send, at times more to get
				w.send(t, task, k > 16)
			default:
				w.get(t, task, k > 16)
			}
			if len(w.p.Senders) > 0 && len(w.p.Items) < w.p.Cap || len(w.p.Getters) > 0 && len(w.p.Items) > 0 {
				t.Fatalf("somebody waits who need not: %v", w.p)
			}
			same(t, "the pipe then", pipe.Check(w.p), none)
		}
		if w.got < 300 {
			t.Errorf("only %d values came out", w.got)
		}
		drained(t, &w)
	}
}

// drained closes the pipe, and gets what is in it, and nothing behind.
func drained(t *testing.T, w *run) {
	t.Helper()
	items := len(w.p.Items)
	w.p, _, _ = pipe.Shut(w.p)
	for range items {
		w.get(t, 1, false)
	}
	then, a, f := pipe.Get(w.p, 1, false)
	same(t, "drained", fmt.Sprint(then, a, f), fmt.Sprint(closed(open(w.p.Cap)), done(), none))
}

// wildNumber is mostly a small one, at times one of the farthest.
func wildNumber(r *rand.Rand) int {
	far := []int{math.MinInt, math.MaxInt, -1, 0, 1001, 1 << 32}
	if r.Intn(30) == 0 {
		return far[r.Intn(len(far))]
	}
	return r.Intn(9)
}

func wildPosts(r *rand.Rand) []api.Post {
	list := make([]api.Post, max(0, r.Intn(7)-3))
	for i := range list {
		list[i] = post(1+r.Intn(20), wildNumber(r), wildNumber(r)/7)
		if r.Intn(9) == 0 {
			list[i].Task = wildNumber(r)
		}
	}
	return list
}

func wildPipe(r *rand.Rand) api.Pipe {
	p := api.Pipe{Cap: wildNumber(r) / 2, Closed: r.Intn(5) == 0}
	if r.Intn(2) == 0 {
		p.Senders = wildPosts(r)
	}
	if r.Intn(2) == 0 {
		p.Getters = wildPosts(r)
	}
	items := r.Intn(3)
	if r.Intn(3) > 0 && p.Cap >= 0 && p.Cap < 9 && len(p.Getters) == 0 {
		items = p.Cap
	}
	for range items {
		p.Items = append(p.Items, wildNumber(r))
	}
	return p
}

// P1: no call panics whatever it is given, each answers the same again, and with a fault there is nothing else.
func TestWildInputs(t *testing.T) {
	r := rand.New(rand.NewSource(4))
	faults := map[int]int{}
	for range 30000 {
		p, task, value, try := wildPipe(r), wildNumber(r), wildNumber(r), r.Intn(2) == 0
		same(t, "again", tellAll(t, p, task, value, try), tellAll(t, p, task, value, try))
		faults[pipe.Check(p).Code]++
	}
	for _, code := range []int{api.OK, api.ErrRange, api.ErrSize, api.ErrForm, api.ErrTwice} {
		if faults[code] < 100 {
			t.Errorf("not all kinds were asked: %v", faults)
		}
	}
}

func tellAll(t *testing.T, p api.Pipe, task, value int, try bool) string {
	wrong := pipe.Check(p)
	ask := func(what string, then api.Pipe, a api.Answer, f api.Fault) string {
		if f != none {
			bare(t, what, then, a)
		} else {
			same(t, what+": the pipe then", pipe.Check(then), none)
		}
		if wrong != none {
			same(t, what+": what Check says", f, wrong)
		}
		return fmt.Sprintln(f, then, a)
	}
	then, a, f := pipe.Send(p, task, value, try)
	text := ask("send", then, a, f)
	then, a, f = pipe.Get(p, task, try)
	text += ask("get", then, a, f)
	then, a, f = pipe.Shut(p)
	text += ask("shut", then, a, f)
	then, f = pipe.Leave(p, task)
	return text + ask("leave", then, api.Answer{}, f)
}
