package pipe_test

import (
	"fmt"
	"testing"

	"taskmill/api"
	"taskmill/pipe"
)

// roomy is the pipe with more behind the length of each of its lists, which nobody may read or write.
// whole has the same lists, each as long as its memory is.
func roomy(p api.Pipe) (short, whole api.Pipe) {
	behind := post(-77, -77, -77)
	whole = p
	whole.Items = append(append([]int{}, p.Items...), -77, -77, -77)
	whole.Senders = append(append([]api.Post{}, p.Senders...), behind, behind, behind)
	whole.Getters = append(append([]api.Post{}, p.Getters...), behind, behind, behind)
	short = whole
	short.Items = whole.Items[:len(p.Items)]
	short.Senders = whole.Senders[:len(p.Senders)]
	short.Getters = whole.Getters[:len(p.Getters)]
	return short, whole
}

// answer is what a call answers.
type answer struct {
	p api.Pipe
	a api.Answer
}

// spoilers write over all the memory of one list of an answer each, also behind its length; and take it out of the answer.
func spoilers() []func(got *answer) {
	items := func(list *[]int) {
		whole := (*list)[:cap(*list)]
		for i := range whole {
			whole[i] = 4444
		}
		*list = nil
	}
	posts := func(list *[]api.Post) {
		whole := (*list)[:cap(*list)]
		for i := range whole {
			whole[i] = post(4444, 4444, 4444)
		}
		*list = nil
	}
	wakes := func(list *[]api.Wake) {
		whole := (*list)[:cap(*list)]
		for i := range whole {
			whole[i] = api.Wake{Task: 4444}
		}
		*list = nil
	}
	return []func(got *answer){
		func(got *answer) { items(&got.p.Items) },
		func(got *answer) { posts(&got.p.Senders) },
		func(got *answer) { posts(&got.p.Getters) },
		func(got *answer) { wakes(&got.a.Wakes) },
	}
}

// without are copies of an answer of which each is without one list, in the order of the spoilers.
func without(got answer) []answer {
	list := []answer{got, got, got, got}
	list[0].p.Items, list[1].p.Senders, list[2].p.Getters, list[3].a.Wakes = nil, nil, nil, nil
	return list
}

// ask is a call, with a name.
type ask struct {
	what string
	call func(p api.Pipe) answer
}

func asks() []ask {
	sends := func(task int, try bool) func(p api.Pipe) answer {
		return func(p api.Pipe) answer {
			then, a, _ := pipe.Send(p, task, 7, try)
			return answer{then, a}
		}
	}
	gets := func(task int, try bool) func(p api.Pipe) answer {
		return func(p api.Pipe) answer {
			then, a, _ := pipe.Get(p, task, try)
			return answer{then, a}
		}
	}
	leaves := func(task int) func(p api.Pipe) answer {
		return func(p api.Pipe) answer {
			then, _ := pipe.Leave(p, task)
			return answer{then, api.Answer{}}
		}
	}
	shuts := func(p api.Pipe) answer {
		then, a, _ := pipe.Shut(p)
		return answer{then, a}
	}
	return []ask{
		{"check", func(p api.Pipe) answer { pipe.Check(p); return answer{} }},
		{"send", sends(9000, false)},
		{"send, try", sends(9000, true)},
		{"send wrongly", sends(0, false)},
		{"get", gets(9000, false)},
		{"get, try", gets(9000, true)},
		{"get wrongly", gets(1, false)},
		{"shut", shuts},
		{"leave, the first", leaves(1)},
		{"leave, one between", leaves(2)},
		{"leave, the last", leaves(3)},
		{"leave, nobody", leaves(8000)},
	}
}

// Lists that are handed in are only read, what lies behind their length is neither read nor written,
// what is answered is new memory, and no two lists of one answer share any.
func TestMemoryIsApart(t *testing.T) {
	three := []api.Post{post(1, 0, 5), post(2, 1, 6), post(3, 2, 8)}
	gets := []api.Post{post(1, 0, 0), post(2, 1, 0), post(3, 2, 0)}
	for _, p := range []api.Pipe{
		{},
		open(1),
		open(1, 4),
		open(3, 4, 5),
		closed(open(3, 4, 5)),
		closed(open(0)),
		sending(open(0), three...),
		sending(open(0), three[0]),
		sending(open(1, 4), three...),
		sending(open(3, 4, 5, 6), three...),
		sending(open(3, 4, 5, 6), three[0]),
		getting(open(0), gets...),
		getting(open(0), gets[0]),
		getting(open(2), gets...),
		sending(open(1000, upTo(1, 1000)...), posts(1, api.MaxList-1001)...),
		sending(open(0), post(1, 0, 5), post(1, 0, 5)), // of which Check says something
	} {
		short, whole := roomy(p)
		before := fmt.Sprint(whole)
		for _, a := range asks() {
			apart(t, a, short, p)
			same(t, a.what+": what was handed in", whole, before)
		}
	}
}

// apart spoils each list of an answer, and looks at what else has changed.
func apart(t *testing.T, a ask, short, p api.Pipe) {
	t.Helper()
	want := fmt.Sprint(a.call(p))
	same(t, a.what+": with more behind", a.call(short), want)
	for i, spoil := range spoilers() {
		got := a.call(short)
		rest := fmt.Sprint(without(got)[i])
		spoil(&got)
		same(t, a.what+": the other lists", got, rest)
		same(t, a.what+": the next answer", a.call(short), want)
	}
}
