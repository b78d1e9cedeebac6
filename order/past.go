package order

import "taskmill/api"

// clock tells of each task how many of its events happen before something. (Task 1 stands at 0.)
// The events of a task happen one before the other, so that it is always the first ones of them.
type clock [api.MaxTask]int

// join has all that another clock tells happen before, too.
func (c *clock) join(other clock) {
	for place, many := range other {
		c[place] = max(c[place], many)
	}
}

// past is what has happened so far in a trace, as far as the clocks of later events hang on it.
type past struct {
	holds  []int          // how many values each pipe holds
	tasks  map[int]*clock // what happens before the next event of a task
	pipes  map[int]*pipe
	locks  map[int]*lock
	groups map[int]*clock // what happens before the next OpWait of a group
}

func newPast(holds []int) *past {
	return &past{
		holds:  holds,
		tasks:  map[int]*clock{},
		pipes:  map[int]*pipe{},
		locks:  map[int]*lock{},
		groups: map[int]*clock{},
	}
}

// found answers what a key stands for; if there is nothing yet, it is made.
func found[K comparable, V any](things map[K]*V, key K) *V {
	thing, there := things[key]
	if !there {
		thing = new(V)
		things[key] = thing
	}
	return thing
}

// add has the next event of the trace happen: its clock.
func (p *past) add(e api.Event) clock {
	mine := found(p.tasks, e.Task)
	mine.join(p.ahead(e))
	mine[e.Task-1]++
	now := *mine
	p.keep(e, now)
	return now
}

// ahead answers what happens before an event by way of the thing that it is done with.
func (p *past) ahead(e api.Event) clock {
	switch e.Op {
	case api.OpSend:
		return found(p.pipes, e.Obj).aheadOfSend(p.holds[e.Obj])
	case api.OpGet:
		return found(p.pipes, e.Obj).aheadOfGet()
	case api.OpLock:
		return found(p.locks, e.Obj).aheadOfLock(e.Value)
	case api.OpWait:
		return *found(p.groups, e.Obj)
	}
	return clock{}
}

// keep keeps an event, which has this clock, for the later ones that it happens before.
func (p *past) keep(e api.Event, now clock) {
	switch e.Op {
	case api.OpGo:
		found(p.tasks, e.Value).join(now)
	case api.OpSend:
		found(p.pipes, e.Obj).keepSend(e.Task, now)
	case api.OpGet:
		sender := found(p.pipes, e.Obj).keepGet(now)
		if sender != nobody && p.holds[e.Obj] == 0 {
			found(p.tasks, sender).join(now)
		}
	case api.OpShut:
		found(p.pipes, e.Obj).shut = now
	case api.OpUnlock:
		found(p.locks, e.Obj).keepUnlock(e.Value, now)
	case api.OpCount:
		found(p.groups, e.Obj).join(now)
	}
}
