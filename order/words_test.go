package order_test

import (
	"slices"

	"taskmill/api"
)

// What stands here tells once more what the chapter's words say: it draws all edges, and goes along them.

// rule is a fault, and whether it applies.
type rule struct {
	applies bool
	f       api.Fault
}

func outside(n, low, high int) bool { return n < low || n > high }

func checkByTheWords(trace []api.Event, pipes []int) api.Fault {
	rules := []rule{{len(trace) > 2000 || len(pipes) > 20, fault(api.ErrMany, 0)}}
	for at, holds := range pipes {
		rules = append(rules, rule{outside(holds, 0, 100), fault(api.ErrSize, at)})
	}
	for at, e := range trace {
		noPipe := slices.Contains([]int{api.OpSend, api.OpGet, api.OpShut}, e.Op) && outside(e.Obj, 0, len(pipes)-1)
		noTask := e.Op == api.OpGo && outside(e.Value, 1, 64)
		rules = append(rules,
			rule{outside(e.Task, 1, 64), fault(api.ErrRange, at)},
			rule{outside(e.Op, 8, 22), fault(api.ErrKind, at)},
			rule{outside(e.Obj, 0, 20) || noPipe || noTask, fault(api.ErrForm, at)})
	}
	for _, r := range rules {
		if r.applies {
			return r.f
		}
	}
	return none
}

// drawing is a trace, and of each event which others its edges lead to.
type drawing struct {
	trace []api.Event
	edges [][]int
}

// draw draws an edge, if it leads to a later event.
func (d *drawing) draw(from, to int) {
	if from < to {
		d.edges[from] = append(d.edges[from], to)
	}
}

// drawToNext draws an edge to the next event of a task behind this one, if there is one.
func (d *drawing) drawToNext(from, task int) {
	for to := from + 1; to < len(d.trace); to++ {
		if d.trace[to].Task == task {
			d.draw(from, to)
			return
		}
	}
}

// all are the events of these ops with a thing, in their order.
func (d *drawing) all(obj int, ops ...int) []int {
	var list []int
	for at, e := range d.trace {
		if e.Obj == obj && slices.Contains(ops, e.Op) {
			list = append(list, at)
		}
	}
	return list
}

// drawEach draws an edge from each event of one op to each later one of another op with the same thing, where it is wanted.
func (d *drawing) drawEach(from, to int, wanted func(one, other api.Event) bool) {
	for obj := range 21 {
		for _, i := range d.all(obj, from) {
			for _, k := range d.all(obj, to) {
				if wanted(d.trace[i], d.trace[k]) {
					d.draw(i, k)
				}
			}
		}
	}
}

func (d *drawing) drawPipe(obj, holds int) {
	sends, shuts := d.all(obj, api.OpSend), d.all(obj, api.OpShut)
	var gets []int
	for _, at := range d.all(obj, api.OpGet) {
		came := 0 // how many sends there are when this get comes
		for came < len(sends) && sends[came] < at {
			came++
		}
		if len(gets) < came {
			gets = append(gets, at)
			continue
		}
		for _, shut := range slices.Backward(shuts) {
			if shut < at {
				d.draw(shut, at)
				break
			}
		}
	}
	for k, get := range gets {
		d.draw(sends[k], get)
		if holds > 0 && k+holds < len(sends) {
			d.draw(get, sends[k+holds])
		}
		if holds == 0 {
			d.drawToNext(get, d.trace[sends[k]].Task)
		}
	}
}

// drawn is a trace with all its edges.
func drawn(trace []api.Event, pipes []int) *drawing {
	d := &drawing{trace, make([][]int, len(trace))}
	for at, e := range trace {
		d.drawToNext(at, e.Task)
		if e.Op == api.OpGo {
			d.drawToNext(at, e.Value)
		}
	}
	for obj, holds := range pipes {
		d.drawPipe(obj, holds)
	}
	d.drawEach(api.OpUnlock, api.OpLock, func(one, other api.Event) bool { return !(one.Value != 1 && other.Value != 1) })
	d.drawEach(api.OpCount, api.OpWait, func(_, _ api.Event) bool { return true })
	return d
}

// orderByTheWords tells of each event before which ones it happens.
func orderByTheWords(trace []api.Event, pipes []int) [][]bool {
	d := drawn(trace, pipes)
	before := make([][]bool, len(trace))
	for i := len(trace) - 1; i >= 0; i-- {
		before[i] = make([]bool, len(trace))
		for _, next := range d.edges[i] {
			before[i][next] = true
			for k, is := range before[next] {
				before[i][k] = before[i][k] || is
			}
		}
	}
	return before
}

func clocksByTheWords(trace []api.Event, pipes []int) [][]int {
	before := orderByTheWords(trace, pipes)
	clocks := make([][]int, len(trace))
	for k := range trace {
		clocks[k] = make([]int, greatest(trace))
		for i, e := range trace {
			if before[i][k] || i == k {
				clocks[k][e.Task-1]++
			}
		}
	}
	return clocks
}
