package poll_test

import (
	"fmt"
	"math"
	"testing"

	"taskmill/api"
)

const much = api.MaxNum

func fault(code, at int) api.Fault { return api.Fault{Code: code, At: at} }

var (
	none   = api.Fault{}
	zero   = api.Desc{}
	closed = api.Desc{Closed: true}
)

// change is something else about a descriptor.
type change func(d *api.Desc)

// desc is a descriptor as of nothing, but for the changes.
func desc(changes ...change) api.Desc {
	var d api.Desc
	for _, c := range changes {
		c(&d)
	}
	return d
}

func shut() change               { return func(d *api.Desc) { d.Closed = true } }
func ready(way int) change       { return func(d *api.Desc) { d.Ready[way] = true } }
func task(way, n int) change     { return func(d *api.Desc) { d.Task[way] = n } }
func until(way, when int) change { return func(d *api.Desc) { d.Until[way] = when } }

// mirrored is the descriptor with its ways the other way round.
func mirrored(d api.Desc) api.Desc {
	d.Ready[0], d.Ready[1] = d.Ready[1], d.Ready[0]
	d.Task[0], d.Task[1] = d.Task[1], d.Task[0]
	d.Until[0], d.Until[1] = d.Until[1], d.Until[0]
	return d
}

// facing is a descriptor that is told for way 0, as it is for the way.
func facing(way int, d api.Desc) api.Desc {
	if way == 1 {
		return mirrored(d)
	}
	return d
}

func told(parts ...any) string { return fmt.Sprintln(parts...) }

// same holds two things against each other as they are told: nil and empty lists are the same.
func same(t *testing.T, what string, got, want any) {
	t.Helper()
	if g, w := fmt.Sprint(got), fmt.Sprint(want); g != w {
		t.Errorf("%s: got %v, want %v", what, g, w)
	}
}

// farNumbers are numbers at and beyond all edges.
func farNumbers() []int {
	return []int{0, 1, 2, -1, much, much + 1, math.MinInt, math.MaxInt}
}

// noTimes are numbers that are not from 0 to MaxNum, noWays such that are neither 0 nor 1.
func noTimes() []int { return []int{-1, -much, math.MinInt, much + 1, 2 * much, math.MaxInt} }
func noWays() []int  { return []int{-1, 2, 3, -2, math.MinInt, math.MaxInt, 1 << 32, 1<<32 + 1} }

// rightDesc is a descriptor with which nothing is wrong.
type rightDesc struct {
	what string
	d    api.Desc
}

func rightDescs() []rightDesc {
	list := []rightDesc{
		{"as of nothing", zero},
		{"Closed", closed},
		{"Ready on both ways", desc(ready(0), ready(1))},
		{"a task on each way", desc(task(0, 1), task(1, 2))},
		{"the first and the farthest task", desc(task(0, 1), task(1, math.MaxInt))},
		{"Until of MaxNum on both ways", desc(until(0, much), until(1, much))},
	}
	one := func(what string, changes ...change) {
		list = append(list, rightDesc{what, desc(changes...)}, rightDesc{what + ", mirrored", mirrored(desc(changes...))})
	}
	one("Ready", ready(0))
	one("Task of 1", task(0, 1))
	one("the farthest task", task(0, math.MaxInt))
	one("Until of 1", until(0, 1))
	one("Until of MaxNum", until(0, much))
	one("Ready, with an Until", ready(0), until(0, 5))
	one("a task, with an Until", task(0, 3), until(0, 5))
	one("Ready here, a task there", ready(0), task(1, 3))
	one("all that can be", ready(0), until(0, 5), task(1, 3), until(1, 5))
	one("two tasks, with Untils", task(0, 4), until(0, 5), task(1, 3), until(1, 2))
	return list
}
