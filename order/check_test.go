package order_test

import (
	"math"
	"slices"
	"testing"

	"taskmill/api"
	"taskmill/order"
)

// asked is a trace with its pipes, and what Check says of them.
type asked struct {
	what  string
	trace []api.Event
	pipes []int
	want  api.Fault
}

// askCheck asks all three calls: the others tell first what Check says, also where i and k are no events.
func askCheck(t *testing.T, list []asked) {
	t.Helper()
	for _, a := range list {
		same(t, a.what+": check", order.Check(a.trace, a.pipes), a.want)
		clocks, f := order.Clocks(a.trace, a.pipes)
		same(t, a.what+": clocks", f, a.want)
		if f != none {
			same(t, a.what+": clocks beside the fault", len(clocks), 0)
		}
		if a.want == none {
			continue
		}
		for _, i := range []int{0, -1, len(a.trace), math.MaxInt, math.MinInt} {
			is, f := order.Before(a.trace, a.pipes, i, i+1)
			same(t, a.what+": before", told(is, f), told(false, a.want))
		}
	}
}

// at is a trace of so many prints, with another event at a place.
func at(many, place int, e api.Event) []api.Event {
	trace := prints(many)
	trace[place] = e
	return trace
}

// wrongEvents are one for each way in which an event is wrong, where there are so many pipes, with its code.
func wrongEvents(pipes int) map[api.Event]int {
	wrong := map[api.Event]int{}
	for _, n := range append(far(), 0, api.MaxTask+1, api.MaxTask+2) {
		wrong[api.Event{Task: n, Op: api.OpPrint}] = api.ErrRange
		wrong[api.Event{Task: 1, Op: api.OpGo, Value: n}] = api.ErrForm
		wrong[api.Event{Task: 1, Op: api.OpGo, Obj: mostObj, Value: n}] = api.ErrForm
	}
	for _, n := range append(far(), 0, 1, api.OpZero, api.OpPanic+1, api.OpPanic+2, 255, 256+api.OpPrint) {
		wrong[api.Event{Task: 1, Op: n}] = api.ErrKind
	}
	for _, n := range append(far(), mostObj+1, mostObj+2) {
		for op := api.OpPrint; op <= api.OpPanic; op++ {
			wrong[api.Event{Task: 1, Op: op, Obj: n, Value: 1}] = api.ErrForm
		}
	}
	for n := pipes; n <= mostObj; n++ {
		for _, op := range []int{api.OpSend, api.OpGet, api.OpShut} {
			wrong[api.Event{Task: 1, Op: op, Obj: n}] = api.ErrForm
		}
	}
	return wrong
}

// P13.1: nothing is wrong, at all edges.
func TestCheckRight(t *testing.T) {
	list := []asked{
		{"nothing", nil, nil, none},
		{"empty lists", []api.Event{}, []int{}, none},
		{"one event", prints(1), nil, none},
		{"2000 events", prints(mostEvents), nil, none},
		{"20 pipes", nil, make([]int, mostPipes), none},
		{"both", prints(mostEvents), slices.Repeat([]int{mostHolds}, mostPipes), none},
		{"a pipe of 0", nil, []int{0}, none},
		{"a pipe of 100", nil, []int{mostHolds}, none},
		{"0 and 100 at the first and at the last place", nil, append([]int{0}, slices.Repeat([]int{mostHolds}, mostPipes-1)...), none},
		{"100 and 0 likewise", nil, append([]int{mostHolds}, make([]int, mostPipes-1)...), none},
		{"a trace that came from no run", events("3 get; 3 get 0 7; 2 send 0 -4; 64 unlock 20 9; 1 wait 20 -1; 2 yield; 5 go 0 5; 9 end; 9 end; 1 sleep 3 3"), []int{0}, none},
	}
	for op := api.OpPrint; op <= api.OpPanic; op++ {
		for _, task := range []int{1, 2, api.MaxTask - 1, api.MaxTask} {
			for _, value := range []int{1, 2, api.MaxTask - 1, api.MaxTask} {
				for _, obj := range []int{0, 1, mostPipes - 1} {
					e := api.Event{Task: task, Op: op, Obj: obj, Value: value}
					list = append(list, asked{told("event", e), at(3, 2, e), make([]int, obj+1), none})
				}
			}
		}
		e := api.Event{Task: 1, Op: op, Obj: mostObj, Value: 1}
		if op != api.OpSend && op != api.OpGet && op != api.OpShut {
			list = append(list, asked{told("the last thing", e), at(3, 0, e), nil, none})
		}
		e = api.Event{Task: 1, Op: op}
		for _, value := range append(far(), 0, api.MaxTask+1) {
			if e.Value = value; op != api.OpGo {
				list = append(list, asked{told("any Value", e), at(3, 1, e), []int{0}, none})
			}
		}
	}
	askCheck(t, list)
}

// P13.1: ErrMany at 0.
func TestCheckMany(t *testing.T) {
	askCheck(t, []asked{
		{"2001 events", prints(mostEvents + 1), nil, fault(api.ErrMany, 0)},
		{"many more", prints(3 * mostEvents), nil, fault(api.ErrMany, 0)},
		{"21 pipes", nil, make([]int, mostPipes+1), fault(api.ErrMany, 0)},
		{"many more pipes", prints(1), make([]int, 10*mostPipes), fault(api.ErrMany, 0)},
		{"both", prints(mostEvents + 1), make([]int, mostPipes+1), fault(api.ErrMany, 0)},
		{"too many events, ahead of a pipe", prints(mostEvents + 1), []int{-1}, fault(api.ErrMany, 0)},
		{"too many events, ahead of an event", at(mostEvents+1, 0, api.Event{}), nil, fault(api.ErrMany, 0)},
		{"too many pipes, ahead of a pipe", nil, slices.Repeat([]int{-1}, mostPipes+1), fault(api.ErrMany, 0)},
		{"too many pipes, ahead of an event", make([]api.Event, 1), make([]int, mostPipes+1), fault(api.ErrMany, 0)},
	})
}

// P13.1: ErrSize at the first pipe that is not from 0 to 100.
func TestCheckSize(t *testing.T) {
	var list []asked
	for _, n := range append(far(), mostHolds+2) {
		for _, many := range []int{1, 2, mostPipes} {
			for _, place := range []int{0, many / 2, many - 1} {
				pipes := make([]int, many)
				pipes[place] = n
				want := fault(api.ErrSize, place)
				list = append(list, asked{told("a pipe of", n, "at", place, "of", many), nil, pipes, want},
					asked{told("ahead of an event: a pipe of", n), make([]api.Event, 3), pipes, want},
					asked{told("ahead of a thing: a pipe of", n), events("1 send 20"), pipes, want})
				more := slices.Repeat([]int{-1}, mostPipes)
				copy(more, make([]int, place))
				more[place] = n
				list = append(list, asked{told("the first of several: a pipe of", n), prints(1), more, want})
			}
		}
	}
	askCheck(t, list)
}

// P13.1: each way in which an event is wrong, and its place.
func TestCheckEvents(t *testing.T) {
	var list []asked
	for _, pipes := range []int{0, 1, 2, mostPipes} {
		for e, code := range wrongEvents(pipes) {
			for _, many := range []int{1, 3} {
				for _, place := range []int{0, many / 2, many - 1} {
					list = append(list, asked{told("event", e, "at", place, "of", many), at(many, place, e), make([]int, pipes), fault(code, place)})
				}
			}
		}
	}
	last := api.Event{Task: 0, Op: api.OpPrint}
	list = append(list, asked{"the last one of 2000", at(mostEvents, mostEvents-1, last), nil, fault(api.ErrRange, mostEvents-1)})
	askCheck(t, list)
}

// P13.1: the first event that is wrong is told, whatever it is; of one event Task is told ahead of Op, and Op ahead of the rest.
func TestCheckInOrder(t *testing.T) {
	var list []asked
	wrong := map[int]api.Event{
		api.ErrRange: {Task: api.MaxTask + 1, Op: api.OpPrint},
		api.ErrKind:  {Task: 1, Op: api.OpZero},
		api.ErrForm:  {Task: 1, Op: api.OpGo},
	}
	for first, e := range wrong {
		for _, other := range wrong {
			list = append(list, asked{told("event by event", e, other), []api.Event{prints(1)[0], e, other, {}}, nil, fault(first, 1)})
		}
	}
	list = append(list,
		asked{"all at once", []api.Event{{Task: 0, Op: 0, Obj: -1, Value: -1}}, nil, fault(api.ErrRange, 0)},
		asked{"Task and Op", []api.Event{{Task: 65, Op: 23}}, nil, fault(api.ErrRange, 0)},
		asked{"Task and Obj", []api.Event{{Task: -1, Op: api.OpGet}}, nil, fault(api.ErrRange, 0)},
		asked{"Op and Obj", []api.Event{{Task: 64, Op: 7, Obj: 21}}, nil, fault(api.ErrKind, 0)},
		asked{"Op ahead of a Value that would be OpGo's", []api.Event{{Task: 64, Op: 23, Value: 65}}, nil, fault(api.ErrKind, 0)},
		asked{"Obj and Value", []api.Event{{Task: 64, Op: api.OpGo, Obj: 21, Value: 65}}, nil, fault(api.ErrForm, 0)},
	)
	askCheck(t, list)
}
