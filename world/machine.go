package world

import (
	"slices"

	"taskmill/api"
	"taskmill/clock"
	"taskmill/ring"
)

// States of tasks, as a report tells them.
const (
	canGo    = 0
	waits    = 1
	sleeps   = 2
	hasEnded = 3
)

// deed is what an instruction leads to when it is done, with the value that is got, and whether it was sent, if it gets one.
type deed func(value int, sent bool)

// task is what a task has of its own. (Its state stands in the report.)
type task struct {
	regs  [8]int
	next  int  // the number of its next instruction
	woken deed // what the instruction at which it waits leads to
}

// processor is a ring, and the task that it goes on with (0: none).
type processor struct {
	api.Ring
	task int
}

// machine is what it reports of the entries so far, and what it plays.
// No call of other layers has a fault for it, but sync.Add: they alone make its things, a task waits at one thing at most,
// and there are fewer tasks and entries than any thing's limit.
type machine struct {
	api.Report
	api.Program
	crew   []*task // task 1 stands at 0
	procs  []processor
	mine   *processor // the one whose step it is
	global []int
	clock  api.Clock // an alarm for each task that sleeps
	pipes  []api.Pipe
	locks  []api.Lock
	groups []api.Group
}

// newMachine is a machine ahead of a run: there is task 1 alone.
func newMachine(p api.Program, procs int) *machine {
	m := &machine{
		Report:  api.Report{Cells: make([]int, p.Cells)},
		Program: p,
		procs:   make([]processor, procs),
		pipes:   make([]api.Pipe, len(p.Pipes)),
		locks:   make([]api.Lock, p.Locks),
		groups:  make([]api.Group, p.Groups),
	}
	for at, holds := range p.Pipes {
		m.pipes[at].Cap = holds
	}
	m.join(m.born(0, 0))
	return m
}

// born makes a task that begins at an instruction, with a value in its r0: its number.
func (m *machine) born(at, value int) int {
	m.crew = append(m.crew, &task{next: at, regs: [8]int{value}})
	m.Tasks = append(m.Tasks, canGo)
	return len(m.Tasks)
}

// enter does one entry of a script.
func (m *machine) enter(entry int) {
	m.Steps++
	if entry == tick {
		m.pass()
	} else {
		m.step(entry)
	}
	if m.State == api.Going && m.isStuck() {
		m.State = api.Stuck
	}
}

// isStuck: can nobody go on, and does nobody sleep?
func (m *machine) isStuck() bool {
	return !slices.ContainsFunc(m.Tasks, func(state int) bool { return state == canGo || state == sleeps })
}

// pass lets one tick pass: those who have slept long enough can go on. (The clock tells them by when, and then as they fell asleep.)
func (m *machine) pass() {
	then, rung, _ := clock.Pass(m.clock, 1)
	m.clock, m.Now = then, then.Now
	for _, alarm := range rung {
		m.join(alarm[1])
	}
}

// step has a processor do the next instruction of its task, or of one that it finds.
func (m *machine) step(at int) {
	m.mine = &m.procs[at]
	if m.mine.task == 0 {
		m.find(at)
	}
	if m.mine.task != 0 {
		m.do(m.mine.task)
	}
}

// find has a processor take a task, if there is one for it.
func (m *machine) find(at int) {
	if m.mine.Next == 0 && len(m.mine.List) == 0 {
		m.fill(at)
	}
	m.mine.Ring, m.mine.task, _ = ring.Take(m.mine.Ring) // of an empty ring: the same, and no task
}

// fill brings tasks to a processor's empty ring: from the global queue, or else from the first of the others, round, that has some.
func (m *machine) fill(at int) {
	if len(m.global) > 0 {
		m.mine.Ring, m.global, _ = ring.Refill(m.mine.Ring, m.global, len(m.procs))
		return
	}
	came := 0
	for far := 1; far < len(m.procs) && came == 0; far++ {
		from := &m.procs[(at+far)%len(m.procs)]
		from.Ring, m.mine.Ring, came, _ = ring.Steal(from.Ring, m.mine.Ring, true)
	}
}

// join has a task go on some time: it comes to the end of the global queue.
func (m *machine) join(by int) {
	m.Tasks[by-1] = canGo
	m.global = append(m.global, by)
}

// ready has a task go on soon: it comes first at the processor whose step it is.
func (m *machine) ready(by int) {
	m.Tasks[by-1] = canGo
	then, spilt, _ := ring.Put(m.mine.Ring, by, true)
	m.mine.Ring = then
	m.global = append(m.global, spilt...)
}

// rest has the processor whose step it is no longer go on with its task, which is in this state now.
func (m *machine) rest(by, state int) {
	m.Tasks[by-1] = state
	m.mine.task = 0
}

// tell has an event come to the trace.
func (m *machine) tell(by, op, obj, value int) {
	m.Trace = append(m.Trace, api.Event{Task: by, Op: op, Obj: obj, Value: value})
}
