package world

import (
	"taskmill/api"
	"taskmill/clock"
	"taskmill/code"
)

// do has a task do its next instruction, or end, if there is none.
func (m *machine) do(by int) {
	t, i := m.crew[by-1], api.Instr{Op: api.OpEnd}
	if t.next < len(m.Code) {
		i = m.Code[t.next]
	}
	if i.Op <= api.OpZero {
		t.next, t.regs, _, _ = code.Run(m.Program, t.next, t.regs, 1)
		return
	}
	t.next++ // who waits or sleeps goes on behind the instruction
	switch i.Op {
	case api.OpPrint:
		m.tell(by, api.OpPrint, 0, t.regs[i.A])
	case api.OpEnd:
		m.end(by)
	case api.OpYield:
		m.yield(by)
	case api.OpGo:
		m.begin(by, i.A, t.regs[i.B])
	case api.OpLoad:
		t.regs[i.A] = m.Report.Cells[i.B]
		m.tell(by, api.OpLoad, i.B, t.regs[i.A])
	case api.OpStore:
		m.Report.Cells[i.A] = t.regs[i.B]
		m.tell(by, api.OpStore, i.A, t.regs[i.B])
	case api.OpSleep:
		m.sleep(by, t.regs[i.A])
	case api.OpPanic:
		m.panics(by, 0)
	default:
		m.use(by, i, t.regs)
	}
}

// end has a task end, and with the first one the run.
func (m *machine) end(by int) {
	m.tell(by, api.OpEnd, 0, 0)
	m.rest(by, hasEnded)
	if by == 1 {
		m.State = api.Ended
	}
}

// yield has a task let others go on.
func (m *machine) yield(by int) {
	m.rest(by, canGo)
	m.join(by)
}

// begin has a task begin another one, at an instruction, with a value.
func (m *machine) begin(by, at, value int) {
	if len(m.Tasks) == api.MaxTask {
		m.State = api.Full
		return
	}
	other := m.born(at, value)
	m.tell(by, api.OpGo, 0, other)
	m.ready(other)
}

// sleep has a task sleep so many ticks.
func (m *machine) sleep(by, ticks int) {
	switch {
	case ticks < 1:
		m.yield(by)
	case ticks > api.MaxNum:
		m.panics(by, 0)
	default:
		m.rest(by, sleeps)
		m.clock, _, _ = clock.Set(m.clock, by, ticks, 0)
	}
}

// panics has a task panic, at a thing, if one panics (0: none), which ends the run.
func (m *machine) panics(by, obj int) {
	m.tell(by, api.OpPanic, obj, 0)
	m.State = api.Panics
}
