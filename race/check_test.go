package race_test

import (
	"slices"
	"testing"

	"taskmill/api"
	"taskmill/order"
	"taskmill/race"
)

// asked is a trace with its pipes, and what chapter 13's Check says of them.
type asked struct {
	what  string
	trace []api.Event
	pipes []int
	want  api.Fault
}

// askFaults asks all three calls: each tells first what Check says, and nothing beside it.
func askFaults(t *testing.T, list []asked) {
	t.Helper()
	for _, a := range list {
		same(t, a.what+": check", order.Check(a.trace, a.pipes), a.want)
		pairs, f := race.All(a.trace, a.pipes)
		same(t, a.what+": all", told(len(pairs), f), told(0, a.want))
		at, f := race.First(a.trace, a.pipes)
		same(t, a.what+": first", told(at, f), told(0, a.want))
		guards, f := race.Guards(a.trace, a.pipes)
		same(t, a.what+": guards", told(len(guards), f), told(0, a.want))
	}
}

// grounds are traces into which something wrong is put: without an access (ErrNone), with a race at each place, and with too many races (ErrMuch).
func grounds() map[string][]api.Event {
	crowd := append(many(80, "1 store"), many(80, "2 store")...)
	return map[string][]api.Event{
		"no race":        events("1 print; 2 lock 0 1; 3 print"),
		"races":          events("1 store 3; 2 store 3; 1 load 3; 2 load 3"),
		"too many races": crowd,
	}
}

// with is a trace with another event put in at a place.
func with(trace []api.Event, place int, e api.Event) []api.Event {
	return slices.Insert(slices.Clone(trace), place, e)
}

// wrongEvents are one for each way in which an event is wrong, where there is one pipe, with its code.
func wrongEvents() map[api.Event]int {
	wrong := map[api.Event]int{}
	for _, n := range append(far(), 0, api.MaxTask+1) {
		wrong[api.Event{Task: n, Op: api.OpStore}] = api.ErrRange
		wrong[api.Event{Task: n, Op: api.OpLock}] = api.ErrRange
		wrong[api.Event{Task: 1, Op: api.OpGo, Value: n}] = api.ErrForm
	}
	for _, n := range append(far(), 0, 1, api.OpZero, api.OpPanic+1, 255, 256+api.OpStore, 1<<32+api.OpLoad) {
		wrong[api.Event{Task: 1, Op: n}] = api.ErrKind
	}
	for _, n := range append(far(), mostObj+1) {
		for op := api.OpPrint; op <= api.OpPanic; op++ {
			wrong[api.Event{Task: 2, Op: op, Obj: n, Value: 1}] = api.ErrForm
		}
	}
	for _, op := range []int{api.OpSend, api.OpGet, api.OpShut} {
		wrong[api.Event{Task: 1, Op: op, Obj: 1}] = api.ErrForm
		wrong[api.Event{Task: 1, Op: op, Obj: mostObj}] = api.ErrForm
	}
	return wrong
}

// Each way in which an event is wrong, at the first, a middle and the last place, ahead of ErrMuch and ErrNone.
func TestWrongEvents(t *testing.T) {
	var list []asked
	for what, ground := range grounds() {
		for e, code := range wrongEvents() {
			for _, place := range []int{0, len(ground) / 2, len(ground)} {
				list = append(list, asked{told(what, e, "at", place), with(ground, place, e), []int{0}, fault(code, place)})
			}
		}
	}
	askFaults(t, list)
}

// The first event that is wrong is told; of one event Task is told ahead of Op, and Op ahead of the rest.
func TestWrongInOrder(t *testing.T) {
	askFaults(t, []asked{
		{"all at once", []api.Event{{Op: 0, Obj: -1, Value: -1}}, nil, fault(api.ErrRange, 0)},
		{"Task and Obj", []api.Event{{Task: 65, Op: api.OpStore, Obj: 21}}, nil, fault(api.ErrRange, 0)},
		{"Op and Obj", []api.Event{{Task: 64, Op: 7, Obj: 21}}, nil, fault(api.ErrKind, 0)},
		{"a cell ahead of a task", []api.Event{{Task: 1, Op: api.OpStore}, {Task: 1, Op: api.OpLoad, Obj: 21}, {}}, nil, fault(api.ErrForm, 1)},
		{"a task ahead of a cell", []api.Event{{Task: 1, Op: api.OpStore}, {}, {Task: 1, Op: api.OpLoad, Obj: 21}}, nil, fault(api.ErrRange, 1)},
		{"behind a race", append(events("1 store; 2 store"), api.Event{}), nil, fault(api.ErrRange, 2)},
		{"a pipe ahead of an event", make([]api.Event, 1), []int{0, 101}, fault(api.ErrSize, 1)},
	})
}

// ErrMany at 0: more than 2000 events or 20 pipes, ahead of all that is wrong else.
func TestTooMany(t *testing.T) {
	racing := append(many(mostEvents/2, "1 store"), many(mostEvents/2, "2 store")...)
	askFaults(t, []asked{
		{"2001 events", many(mostEvents+1, "1 print"), nil, fault(api.ErrMany, 0)},
		{"2001 events, too many races", append(racing, racing[0]), nil, fault(api.ErrMany, 0)},
		{"many more", many(3*mostEvents, "1 load"), nil, fault(api.ErrMany, 0)},
		{"2001 wrong events", make([]api.Event, mostEvents+1), []int{-1}, fault(api.ErrMany, 0)},
		{"21 pipes", events("1 store; 2 store"), make([]int, mostPipes+1), fault(api.ErrMany, 0)},
		{"21 pipes, no events", nil, make([]int, mostPipes+1), fault(api.ErrMany, 0)},
		{"21 wrong pipes", make([]api.Event, 1), slices.Repeat([]int{-1}, mostPipes+1), fault(api.ErrMany, 0)},
	})
}

// ErrSize at the first pipe that is not from 0 to 100.
func TestWrongPipes(t *testing.T) {
	var list []asked
	for what, ground := range grounds() {
		for _, n := range far() {
			for _, place := range []int{0, 1, mostPipes - 1} {
				pipes := slices.Repeat([]int{mostHolds}, mostPipes)
				pipes[place], pipes[mostPipes-1] = n, n
				list = append(list, asked{told(what, "a pipe of", n, "at", place), ground, pipes, fault(api.ErrSize, place)})
			}
		}
	}
	askFaults(t, list)
}

// What is at the edges and right is no fault of Check's: 2000 events, 20 pipes, pipes of 0 and 100, tasks 1 and MaxTask, cells 0 and 20.
func TestRightAtTheEdges(t *testing.T) {
	full := slices.Repeat([]int{0, mostHolds}, mostPipes/2)
	trace := many(mostEvents-2, "64 store 20")
	trace = append(trace, events("1 print; 1 store 0")...)
	same(t, "all", allTold(t, trace, full), "")
	askFirst(t, "no race", trace, full, -1)
	same(t, "guards", guardsTold(t, trace, full), make([][]int, mostObj+1))
	trace[mostEvents-1].Obj = mostObj
	askFirst(t, "the last of 2000 events", trace, full, mostEvents-1)
	pairs, f := race.All(trace, full)
	same(t, "as many races as events ahead, but one", told(len(pairs), f), told(mostEvents-2, none))
	for at, pair := range pairs {
		same(t, "pair", pair, [2]int{at, mostEvents - 1})
	}
}
