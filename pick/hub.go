package pick

import (
	"slices"

	"taskmill/api"
	"taskmill/pipe"
)

// set is which numbers were seen: of pipes, of cases, or of tasks.
type set map[int]struct{}

func (s set) has(number int) bool {
	_, seen := s[number]
	return seen
}

func (s set) add(number int) {
	s[number] = struct{}{}
}

// isOf is the function that tells a task's posts from others.
func isOf(task int) func(post api.Post) bool {
	return func(post api.Post) bool { return post.Task == task }
}

// isAmong is the function that tells the posts of those who are woken from others.
func isAmong(wakes []api.Wake) func(post api.Post) bool {
	woken := make(set, len(wakes))
	for _, wake := range wakes {
		woken.add(wake.Task)
	}
	return func(post api.Post) bool { return woken.has(post.Task) }
}

// waits: does the task wait at some pipe, to send or to get?
func waits(l []api.Pipe, task int) bool {
	return slices.ContainsFunc(l, func(p api.Pipe) bool {
		return slices.ContainsFunc(p.Senders, isOf(task)) || slices.ContainsFunc(p.Getters, isOf(task))
	})
}

// tried is what comes of a case if nobody is to wait: its pipe then, in new memory, and the answer.
func tried(l []api.Pipe, task int, c api.Case) (api.Pipe, api.Answer) {
	if c.Pipe == never {
		return api.Pipe{}, api.Answer{}
	}
	if c.Send {
		p, answer, _ := pipe.Send(l[c.Pipe], task, c.Value, true)
		return p, answer
	}
	p, answer, _ := pipe.Get(l[c.Pipe], task, true)
	return p, answer
}

// settled is the hub, in new memory, in which the pipe i has become p, and those who are woken wait nowhere else either.
func settled(l []api.Pipe, i int, p api.Pipe, wakes []api.Wake) []api.Pipe {
	hub := fresh(l)
	hub[i] = p
	return without(hub, isAmong(wakes))
}

// without takes out the posts that are gone, of a hub whose memory is the call's own.
func without(hub []api.Pipe, gone func(post api.Post) bool) []api.Pipe {
	for i := range hub {
		hub[i].Senders = slices.DeleteFunc(hub[i].Senders, gone)
		hub[i].Getters = slices.DeleteFunc(hub[i].Getters, gone)
	}
	return hub
}

// queued has a task wait by all of its cases, at a hub whose memory is the call's own.
func queued(hub []api.Pipe, task int, cases []api.Case) []api.Pipe {
	for number, c := range cases {
		if c.Pipe == never {
			continue
		}
		p, post := &hub[c.Pipe], api.Post{Task: task, Case: number, Value: c.Value}
		if c.Send {
			p.Senders = append(p.Senders, post)
		} else {
			p.Getters = append(p.Getters, post)
		}
	}
	return hub
}

// fresh copies a hub into memory of its own, with all that its pipes hold.
func fresh(l []api.Pipe) []api.Pipe {
	hub := make([]api.Pipe, len(l))
	for i, p := range l {
		p.Items = append([]int{}, p.Items...)
		p.Senders = append([]api.Post{}, p.Senders...)
		p.Getters = append([]api.Post{}, p.Getters...)
		hub[i] = p
	}
	return hub
}
