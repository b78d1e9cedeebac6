package pick_test

import (
	"fmt"
	"slices"
	"testing"

	"taskmill/api"
	"taskmill/pick"
)

// given is all that is handed in, each list with more behind its length, which nobody may read or write.
type given struct {
	l     []api.Pipe
	cases []api.Case
	order []int
}

// longer is a list with more behind it.
func longer[T any](list []T, behind T) []T {
	return append(slices.Clone(list), behind, behind, behind)
}

// roomy is what is given, in memory that has more behind each length; whole has the same lists, each as long as its memory is.
func roomy(g given) (short, whole given) {
	behind := post(-77, -77, -77)
	whole = given{longer(g.l, open(-77, -77)), longer(g.cases, sends(-77, -77)), longer(g.order, -77)}
	short = given{slices.Clone(whole.l)[:len(g.l)], whole.cases[:len(g.cases)], whole.order[:len(g.order)]}
	for i, p := range g.l {
		w, s := &whole.l[i], &short.l[i]
		w.Items, w.Senders, w.Getters = longer(p.Items, -77), longer(p.Senders, behind), longer(p.Getters, behind)
		s.Items, s.Senders, s.Getters = w.Items[:len(p.Items)], w.Senders[:len(p.Senders)], w.Getters[:len(p.Getters)]
	}
	return short, whole
}

// answer is what a call answers.
type answer struct {
	l       []api.Pipe
	a       api.Answer
	numbers []int
}

// spoiler writes over all the memory of a list, also behind its length, and takes it out of the answer.
func spoiler[T any](list *[]T, with T) func() {
	return func() {
		whole := (*list)[:cap(*list)]
		for i := range whole {
			whole[i] = with
		}
		*list = nil
	}
}

// spoilers are one for each list of an answer, those of its pipes ahead of the list of pipes.
func spoilers(got *answer) []func() {
	var list []func()
	for i := range got.l {
		p := &got.l[i]
		list = append(list, spoiler(&p.Items, 4444), spoiler(&p.Senders, post(4444, 4444, 4444)), spoiler(&p.Getters, post(4444, 4444, 4444)))
	}
	return append(list, spoiler(&got.a.Wakes, goesOn(4444, 4444)), spoiler(&got.numbers, 4444), spoiler(&got.l, open(4444, 4444)))
}

// without is what is told of an answer without its list of that spoiler.
func without(got answer, which int) string {
	got.l = slices.Clone(got.l)
	switch n := 3 * len(got.l); {
	case which == n:
		got.a.Wakes = nil
	case which == n+1:
		got.numbers = nil
	case which == n+2:
		got.l = nil
	case which%3 == 0:
		got.l[which/3].Items = nil
	case which%3 == 1:
		got.l[which/3].Senders = nil
	default:
		got.l[which/3].Getters = nil
	}
	return fmt.Sprint(got)
}

// ask is a call, with a name.
type ask struct {
	what string
	call func(g given) answer
}

func asks() []ask {
	picks := func(task int, def bool) func(g given) answer {
		return func(g given) answer {
			then, a, _ := pick.Pick(g.l, task, g.cases, g.order, def)
			return answer{l: then, a: a}
		}
	}
	shuts := func(i int) func(g given) answer {
		return func(g given) answer {
			then, a, _ := pick.Shut(g.l, i)
			return answer{l: then, a: a}
		}
	}
	leaves := func(task int) func(g given) answer {
		return func(g given) answer {
			then, _ := pick.Leave(g.l, task)
			return answer{l: then}
		}
	}
	return []ask{
		{"check", func(g given) answer { pick.Check(g.l); return answer{} }},
		{"pick", picks(9000, false)},
		{"pick, def", picks(9000, true)},
		{"pick wrongly", picks(1, false)},
		{"shut the first", shuts(0)},
		{"shut the second", shuts(1)},
		{"shut none", shuts(-1)},
		{"leave, the first", leaves(1)},
		{"leave, one between", leaves(2)},
		{"leave, the last", leaves(3)},
		{"leave, nobody", leaves(8000)},
		{"ready", func(g given) answer { numbers, _ := pick.Ready(g.l, 9000, g.cases); return answer{numbers: numbers} }},
	}
}

// Lists that are handed in are only read, what lies behind their length is neither read nor written,
// what is answered is new memory, and no two lists of one answer share any.
func TestMemoryIsApart(t *testing.T) {
	three := []api.Post{post(1, 0, 5), post(2, 1, 6), post(3, 2, 8)}
	waits := []api.Post{post(1, 3, 0), post(2, 4, 0), post(3, 5, 0)}
	sent, full, got := sending(open(0), three...), sending(open(2, 4, 5), three...), getting(open(2), waits...)
	for _, g := range []given{
		{},
		{hub(open(1)), nil, nil},
		{hub(open(1), open(2, 4)), choice(gets(0), sends(1, 5)), []int{0, 1}},
		{hub(open(1), open(1, 4)), choice(gets(0), sends(1, 5)), []int{1, 0}},
		{hub(sent, got), choice(sends(1, 7), gets(0)), []int{0, 1}},
		{hub(sent, got), choice(sends(1, 7), gets(0)), []int{1, 0}},
		{hub(got, full, sent), choice(gets(1), gets(-1), sends(2, 7)), []int{2, 1, 0}},
		{hub(got, full, sent), choice(gets(0), gets(-1), sends(2, 7), sends(1, 8)), []int{2, 1, 0, 3}},
		{hub(closed(open(1, 4)), full, got), choice(gets(0), sends(2, 9)), []int{0, 1}},
		{alike(2, getting(open(0), waits[0])), choice(gets(0), gets(1)), []int{1, 0}},
		{alike(3, getting(open(0), waits...)), choice(gets(0), gets(1)), []int{1, 1}},           // an order that is none
		{hub(sending(open(0), three[0], three[0]), got), choice(gets(0), gets(1)), []int{0, 1}}, // of which Check says something
	} {
		short, whole := roomy(g)
		before := fmt.Sprint(whole)
		for _, a := range asks() {
			apart(t, a, short, g)
			same(t, a.what+": what was handed in", whole, before)
		}
	}
}

// apart spoils each list of an answer, and looks at what else has changed.
func apart(t *testing.T, a ask, short, g given) {
	t.Helper()
	pipes := short.l[:len(short.l)+3] // with those behind its length
	want, before := fmt.Sprint(a.call(g)), fmt.Sprint(pipes)
	first := a.call(short)
	same(t, a.what+": with more behind", first, want)
	for which := range spoilers(&first) {
		got := a.call(short)
		rest := without(got, which)
		spoilers(&got)[which]()
		same(t, a.what+": the other lists", got, rest)
		same(t, a.what+": the pipes that were handed in", pipes, before)
		same(t, a.what+": the next answer", a.call(short), want)
	}
}
