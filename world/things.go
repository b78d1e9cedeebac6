package world

import (
	"taskmill/api"
	"taskmill/lock"
	"taskmill/pipe"
	"taskmill/sync"
)

// sentRegister tells a task that gets whether the value was sent.
const sentRegister = 7

// use has a task with these registers do an instruction at a pipe, a lock or a group.
func (m *machine) use(by int, i api.Instr, regs [8]int) {
	switch i.Op {
	case api.OpSend:
		m.send(by, i.A, regs[i.B])
	case api.OpGet:
		m.get(by, i.B, i.A)
	case api.OpShut:
		m.shut(by, i.A)
	case api.OpLock:
		m.lock(by, i.A, i.B)
	case api.OpUnlock:
		m.unlock(by, i.A, i.B)
	case api.OpCount:
		m.count(by, i.A, regs[i.B])
	case api.OpWait:
		m.await(by, i.A)
	}
}

func (m *machine) send(by, at, value int) {
	then, answer, _ := pipe.Send(m.pipes[at], by, value, false)
	m.pipes[at] = then
	m.settle(by, at, answer, func(int, bool) { m.tell(by, api.OpSend, at, value) })
}

// get has a task get a value into one of its registers.
func (m *machine) get(by, at, register int) {
	held := len(m.pipes[at].Items)
	then, answer, _ := pipe.Get(m.pipes[at], by, false)
	m.pipes[at] = then
	if held == 0 { // a sender brings the value itself, and so sends ahead of the get
		m.wake(at, answer.Wakes)
		answer.Wakes = nil
	}
	m.settle(by, at, answer, func(value int, sent bool) {
		regs := &m.crew[by-1].regs
		regs[register] = value
		regs[sentRegister] = number(sent) // behind the value: it holds even where that is in the same register
		m.tell(by, api.OpGet, at, value)
	})
}

func (m *machine) shut(by, at int) {
	then, answer, _ := pipe.Shut(m.pipes[at])
	m.pipes[at] = then
	m.settle(by, at, answer, func(int, bool) { m.tell(by, api.OpShut, at, 0) })
}

func (m *machine) lock(by, at, write int) {
	then, holds, _ := lock.Enter(m.locks[at], by, write == 1, false)
	m.locks[at] = then
	m.settle(by, at, api.Answer{Done: holds}, func(int, bool) { m.tell(by, api.OpLock, at, write) })
}

func (m *machine) unlock(by, at, write int) {
	then, tasks, panics, _ := lock.Leave(m.locks[at], write == 1)
	m.locks[at] = then
	answer := api.Answer{Done: true, Panic: panics, Wakes: wakesOf(tasks)}
	m.settle(by, at, answer, func(int, bool) { m.tell(by, api.OpUnlock, at, write) })
}

func (m *machine) count(by, at, n int) {
	then, tasks, panics, f := sync.Add(m.groups[at], n)
	m.groups[at] = then
	answer := api.Answer{Done: true, Panic: panics || f.Code != api.OK, Wakes: wakesOf(tasks)}
	m.settle(by, at, answer, func(int, bool) { m.tell(by, api.OpCount, at, n) })
}

func (m *machine) await(by, at int) {
	then, goes, _ := sync.Await(m.groups[at], by)
	m.groups[at] = then
	m.settle(by, at, api.Answer{Done: goes}, func(int, bool) { m.tell(by, api.OpWait, at, 0) })
}

// settle has a task panic, wait, or have done its instruction, and wake others, as the thing there has answered.
func (m *machine) settle(by, at int, answer api.Answer, done deed) {
	switch {
	case answer.Panic:
		m.panics(by, at)
	case !answer.Done:
		m.crew[by-1].woken = done
		m.rest(by, waits)
	default:
		done(answer.Value, answer.Ok)
		m.wake(at, answer.Wakes)
	}
}

// wake has those who waited at a thing go on, having done the instruction at which they waited; or panic, which leaves those behind as they are.
func (m *machine) wake(at int, wakes []api.Wake) {
	for _, w := range wakes {
		m.ready(w.Task)
		if w.Panic {
			m.panics(w.Task, at)
			return
		}
		m.crew[w.Task-1].woken(w.Value, w.Ok)
	}
}

// wakesOf is how tasks are woken that get no value.
func wakesOf(tasks []int) []api.Wake {
	wakes := make([]api.Wake, len(tasks))
	for i, by := range tasks {
		wakes[i].Task = by
	}
	return wakes
}

// number answers 1, if something is so, else 0.
func number(so bool) int {
	if so {
		return 1
	}
	return 0
}
