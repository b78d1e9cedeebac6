package wait_test

import (
	"fmt"
	"math/rand"
	"slices"
	"testing"

	"taskmill/api"
	"taskmill/wait"
)

// P4.2 to P4.5, at all addresses of many lines: what the document's words say of who waits where.
func TestByTheWords(t *testing.T) {
	r := rand.New(rand.NewSource(1))
	for range 300 {
		l := anyLines(r, 1+r.Intn(4))
		for at := -4; at <= 4; at++ {
			addByTheWords(t, l, at)
			for n := -1; n <= 6; n++ {
				wakeByTheWords(t, l, at, n)
				moveByTheWords(t, l, at, r.Intn(9)-4, n)
			}
		}
		for task := range 36 {
			dropByTheWords(t, l, task)
		}
	}
}

func addByTheWords(t *testing.T, l []api.Line, at int) {
	t.Helper()
	for _, first := range []bool{false, true} {
		m := modelOf(l)
		if m[at] = append(m[at], 100); first {
			m[at] = join([]int{100}, m[at][:len(m[at])-1])
		}
		then, f := wait.Add(l, at, 100, first)
		same(t, "add", fmt.Sprint(then, f, wait.Check(then)), fmt.Sprint(m.lines(), none, none))
	}
}

func wakeByTheWords(t *testing.T, l []api.Line, at, n int) {
	t.Helper()
	m := modelOf(l)
	want := m.wake(at, n)
	then, woken, f := wait.Wake(l, at, n)
	same(t, "wake", fmt.Sprint(then, woken, f, wait.Check(then)), fmt.Sprint(m.lines(), want, none, none))
}

func moveByTheWords(t *testing.T, l []api.Line, from, to, n int) {
	t.Helper()
	m := modelOf(l)
	moved := m.wake(from, n)
	m[to] = append(m[to], moved...)
	then, f := wait.Move(l, from, to, n)
	same(t, "move", fmt.Sprint(then, f, wait.Check(then)), fmt.Sprint(m.lines(), none, none))
}

func dropByTheWords(t *testing.T, l []api.Line, task int) {
	t.Helper()
	m := modelOf(l)
	where, waits := m.where(task)
	then, at, f := wait.Drop(l, task)
	if !waits {
		same(t, "drop", fmt.Sprint(then, at, f), fmt.Sprint(lines(), 0, fault(api.ErrNone, 0)))
		return
	}
	m[where] = slices.DeleteFunc(m[where], func(one int) bool { return one == task })
	same(t, "drop", fmt.Sprint(then, at, f, wait.Check(then)), fmt.Sprint(m.lines(), where, none, none))
}

// What follows: of one line tasks are woken in the order in which they were added without first, also beside others.
// The tasks' numbers rise in each line, so that their order shows; those that came with first have numbers of their own.
func TestWokenAsAdded(t *testing.T) {
	const ahead = 1 << 20
	r := rand.New(rand.NewSource(2))
	var l []api.Line
	last := map[int]int{}
	woken := 0
	for task := 1; task <= 3000; task++ {
		at := r.Intn(5) - 2
		switch r.Intn(10) {
		case 0:
			l, _ = wait.Add(l, at, ahead+task, true)
		case 1, 2, 3, 4:
			var gone []int
			l, gone, _ = wait.Wake(l, at, r.Intn(4))
			for _, one := range gone {
				if one > ahead {
					continue
				}
				if one <= last[at] {
					t.Fatalf("at %d the task %d is woken behind %d", at, one, last[at])
				}
				last[at] = one
				woken++
			}
		case 5:
			if len(l) > 0 {
				tasks := l[r.Intn(len(l))].Tasks
				l, _, _ = wait.Drop(l, tasks[r.Intn(len(tasks))])
			}
		default:
			l, _ = wait.Add(l, at, task, false)
		}
	}
	if woken < 200 {
		t.Errorf("only %d were woken", woken)
	}
}

// What follows: nothing that is done to one line changes another one (but Move's, of which there are two).
func TestOtherLinesStay(t *testing.T) {
	r := rand.New(rand.NewSource(3))
	for range 2000 {
		l := anyLines(r, 4)
		at, to, n := r.Intn(9)-4, r.Intn(9)-4, r.Intn(7)-1
		added, _ := wait.Add(l, at, 100, r.Intn(2) == 0)
		same(t, "add", others(added, at), others(l, at))
		left, _, _ := wait.Wake(l, at, n)
		same(t, "wake", others(left, at), others(l, at))
		moved, _ := wait.Move(l, at, to, n)
		same(t, "move", others(moved, at, to), others(l, at, to))
		if then, where, f := wait.Drop(l, 1+r.Intn(33)); f == none {
			same(t, "drop", others(then, where), others(l, where))
		}
	}
}

// others are the lines of all addresses but these.
func others(l []api.Line, but ...int) []api.Line {
	return slices.DeleteFunc(slices.Clone(l), func(line api.Line) bool { return slices.Contains(but, line.At) })
}

// P1: no call panics whatever it is given, each answers the same again, and with a fault there is nothing else.
func TestWildInputs(t *testing.T) {
	r := rand.New(rand.NewSource(4))
	faults := map[int]int{}
	for range 20000 {
		l := make([]api.Line, r.Intn(5))
		for i := range l {
			l[i] = api.Line{At: wildNumber(r), Tasks: wildList(r, r.Intn(24)/7)}
		}
		if r.Intn(3) > 0 {
			slices.SortFunc(l, func(a, b api.Line) int {
				if a.At < b.At {
					return -1
				}
				return 1
			})
		}
		at, to, number := wildNumber(r), wildNumber(r), wildNumber(r)-1
		same(t, "again", tellAll(t, l, at, to, number), tellAll(t, l, at, to, number))
		faults[wait.Check(l).Code]++
	}
	for _, code := range []int{api.OK, api.ErrForm, api.ErrRange, api.ErrTwice} {
		if faults[code] < 100 {
			t.Errorf("not all kinds were asked: %v", faults)
		}
	}
}

func tellAll(t *testing.T, l []api.Line, at, to, number int) string {
	wrong := wait.Check(l)
	ask := func(what string, f api.Fault, then []api.Line, list []int, at int) string {
		if f != none {
			bare(t, what, then, list, at)
		} else {
			same(t, what+": the lines then", wait.Check(then), none)
		}
		if wrong != none {
			same(t, what+": what Check says", f, wrong)
		}
		return fmt.Sprintln(f, then, list, at)
	}
	added, f := wait.Add(l, at, number, to > at)
	text := ask("add", f, added, nil, 0)
	left, woken, f := wait.Wake(l, at, number)
	text += ask("wake", f, left, woken, 0)
	then, where, f := wait.Drop(l, number)
	text += ask("drop", f, then, nil, where)
	moved, f := wait.Move(l, at, to, number)
	return text + ask("move", f, moved, nil, 0)
}

// roomy lines have more behind their length, and behind that of each one's tasks, which nobody may read or write.
// whole are all of these lists, each as long as its memory is.
func roomy(l []api.Line) (short, whole []api.Line) {
	behind := line(-77, -77, -77)
	for _, one := range l {
		tasks := join(one.Tasks, []int{-77, -77, -77, -77})
		short = append(short, api.Line{At: one.At, Tasks: tasks[:len(one.Tasks)]})
		whole = append(whole, api.Line{At: one.At, Tasks: tasks})
	}
	short = append(short, behind, behind, behind, behind)
	return short[:len(l)], append(whole, short[len(l):]...)
}

// answer is what a call answers: lines, and tasks beside them.
type answer struct {
	l     []api.Line
	woken []int
}

// parts are all lists of tasks of an answer.
func (a answer) parts() [][]int {
	lists := [][]int{a.woken}
	for _, one := range a.l {
		lists = append(lists, one.Tasks)
	}
	return lists
}

// ask is a call, with a name.
type ask struct {
	what string
	call func(l []api.Line) answer
}

func asks() []ask {
	adding := func(at, task int, first bool) func(l []api.Line) answer {
		return func(l []api.Line) answer {
			then, _ := wait.Add(l, at, task, first)
			return answer{then, nil}
		}
	}
	waking := func(at, n int) func(l []api.Line) answer {
		return func(l []api.Line) answer {
			then, woken, _ := wait.Wake(l, at, n)
			return answer{then, woken}
		}
	}
	dropping := func(task int) func(l []api.Line) answer {
		return func(l []api.Line) answer {
			then, _, _ := wait.Drop(l, task)
			return answer{then, nil}
		}
	}
	moving := func(from, to, n int) func(l []api.Line) answer {
		return func(l []api.Line) answer {
			then, _ := wait.Move(l, from, to, n)
			return answer{then, nil}
		}
	}
	return []ask{
		{"check", func(l []api.Line) answer { wait.Check(l); return answer{} }},
		{"add to a line", adding(5, 9000, false)},
		{"add to a line, first", adding(5, 9000, true)},
		{"add to the last line", adding(9, 9000, false)},
		{"add a line ahead", adding(-9, 9000, false)},
		{"add a line between", adding(6, 9000, false)},
		{"add a line behind", adding(99, 9000, false)},
		{"add wrongly", adding(5, 0, false)},
		{"wake none", waking(5, 0)},
		{"wake one", waking(5, 1)},
		{"wake all", waking(5, 99)},
		{"wake all of the last line", waking(9, 99)},
		{"wake nobody's", waking(6, 2)},
		{"drop the first", dropping(1)},
		{"drop one between", dropping(2)},
		{"drop one alone", dropping(4)},
		{"drop none", dropping(8000)},
		{"move none", moving(5, 9, 0)},
		{"move one", moving(5, 9, 1)},
		{"move one, to a line ahead", moving(9, 5, 1)},
		{"move all", moving(5, 9, 99)},
		{"move to a new line", moving(5, 99, 2)},
		{"move to itself", moving(5, 5, 2)},
		{"move all to itself", moving(5, 5, 3)},
		{"move from nobody's", moving(6, 5, 2)},
	}
}

// Lists that are handed in are only read, what lies behind their length is neither read nor written,
// what is answered is new memory, and no two lists of one answer share any.
func TestMemoryIsApart(t *testing.T) {
	for _, list := range [][]api.Line{
		nil,
		lines(line(5, 1)),
		lines(line(5, 1, 2, 3)),
		lines(line(5, 1, 2, 3), line(7, 4), line(9, 5, 6)),
		lines(line(-3, 7, 8), line(5, 1, 2, 3), line(8, 4), line(9, 5)),
		lines(line(5, upTo(1, api.MaxList-1)...)),
	} {
		l, whole := roomy(list)
		before := fmt.Sprint(whole)
		for _, a := range asks() {
			apart(t, a, l, list)
			same(t, a.what+": what was handed in", whole, before)
		}
	}
}

// apart writes over all the memory of each list of an answer, also behind its length, and looks at what else has changed.
func apart(t *testing.T, a ask, l, list []api.Line) {
	t.Helper()
	want := fmt.Sprint(a.call(list))
	same(t, a.what+": with more behind", a.call(l), want)
	for i := range a.call(l).parts() {
		parts := a.call(l).parts()
		rest := slices.Delete(slices.Clone(parts), i, i+1)
		before := fmt.Sprint(rest)
		whole := parts[i][:cap(parts[i])]
		for k := range whole {
			whole[k] = 4444
		}
		same(t, a.what+": the other lists", rest, before)
		same(t, a.what+": the next answer", a.call(l), want)
	}
	got := a.call(l).l
	for i := range got[:cap(got)] {
		got[:cap(got)][i] = line(4444, 4444)
	}
	same(t, a.what+": the next answer, over lines", a.call(l), want)
}
