package pipe

import (
	"slices"

	"taskmill/api"
)

// set is which tasks were seen.
type set map[int]struct{}

func (s set) has(task int) bool {
	_, seen := s[task]
	return seen
}

func (s set) add(task int) {
	s[task] = struct{}{}
}

// count is how much a pipe has of all that is bounded by MaxList.
func count(p api.Pipe) int {
	return len(p.Items) + len(p.Senders) + len(p.Getters)
}

// isOf is the function that tells a task's post from others.
func isOf(task int) func(post api.Post) bool {
	return func(post api.Post) bool { return post.Task == task }
}

// waits: does the task wait at the pipe, to send or to get?
func waits(p api.Pipe, task int) bool {
	return slices.ContainsFunc(p.Senders, isOf(task)) || slices.ContainsFunc(p.Getters, isOf(task))
}

// woken is how a task that waited goes on: by the case by which it waited.
func woken(post api.Post, with api.Wake) api.Wake {
	with.Task, with.Case = post.Task, post.Case
	return with
}

// fresh copies a pipe into memory of its own.
func fresh(p api.Pipe) api.Pipe {
	p.Items = append([]int{}, p.Items...)
	p.Senders = append([]api.Post{}, p.Senders...)
	p.Getters = append([]api.Post{}, p.Getters...)
	return p
}
