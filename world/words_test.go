package world_test

import (
	"slices"

	"taskmill/api"
	"taskmill/code"
)

// What stands here plays programs once more, as the chapters' words tell it, and with no other layer's help but chapter 11's Check:
// a task that waits stays at its instruction, and who wakes it does that in its stead.

type seat struct {
	task, next int
	list       []int
}

type tube struct {
	items            []int
	closed           bool
	senders, getters []int
}

type bolt struct {
	readers int
	writer  bool
	line    []int
}

type tally struct {
	count int
	line  []int
}

// asleep is a task, until when it sleeps, and the entry at which it fell asleep.
type asleep struct{ task, until, since int }

type player struct {
	p      api.Program
	r      api.Report
	regs   [api.MaxTask + 1][8]int
	pc     [api.MaxTask + 1]int
	seats  []seat
	at     int
	global []int
	beds   []asleep
	tubes  []tube
	bolts  []bolt
	sums   []tally
}

func faultByTheWords(p api.Program, procs int, script []int) api.Fault {
	if f := code.Check(p); f != none {
		return f
	}
	if !(1 <= procs && procs <= 16) {
		return fault(api.ErrRange, -1)
	}
	if len(script) > 5000 {
		return fault(api.ErrMany, -1)
	}
	if at := slices.IndexFunc(script, func(e int) bool { return !(-1 <= e && e <= procs-1) }); at >= 0 {
		return fault(api.ErrRange, at)
	}
	return none
}

func playByTheWords(p api.Program, procs int, script []int) (api.Report, api.Fault) {
	if f := faultByTheWords(p, procs, script); f != none {
		return api.Report{}, f
	}
	w := &player{p: p, seats: make([]seat, procs), tubes: make([]tube, len(p.Pipes)), bolts: make([]bolt, p.Locks), sums: make([]tally, p.Groups)}
	w.r = api.Report{Tasks: []int{0}, Cells: make([]int, p.Cells)}
	w.global = []int{1}
	for _, e := range script {
		w.r.Steps++
		if e == -1 {
			w.tick()
		} else {
			w.step(e)
		}
		if w.r.State == api.Going && !slices.Contains(w.r.Tasks, 0) && !slices.Contains(w.r.Tasks, 2) {
			w.r.State = api.Stuck
		}
		if w.r.State != api.Going {
			break
		}
	}
	return w.r, none
}

func (w *player) tick() {
	w.r.Now++
	slices.SortFunc(w.beds, func(a, b asleep) int {
		if a.until != b.until {
			return a.until - b.until
		}
		return a.since - b.since
	})
	for len(w.beds) > 0 && w.beds[0].until <= w.r.Now {
		w.r.Tasks[w.beds[0].task-1] = 0
		w.global = append(w.global, w.beds[0].task)
		w.beds = w.beds[1:]
	}
}

func (w *player) step(at int) {
	w.at = at
	mine := &w.seats[at]
	if mine.task == 0 && mine.next == 0 && len(mine.list) == 0 {
		w.fetch(mine)
	}
	if mine.task == 0 && mine.next != 0 {
		mine.task, mine.next = mine.next, 0
	} else if mine.task == 0 && len(mine.list) > 0 {
		mine.task, mine.list = mine.list[0], mine.list[1:]
	}
	if mine.task == 0 {
		return
	}
	task := mine.task
	if !w.do(task) || w.r.Tasks[task-1] != 0 {
		mine.task = 0
	}
}

// fetch moves tasks to an empty ring; no more than 64 are moved, so that no ring is ever full.
func (w *player) fetch(mine *seat) {
	if many := len(w.global); many > 0 {
		n := min(many, many/len(w.seats)+1)
		mine.list = slices.Clone(w.global[:n])
		w.global = slices.Clone(w.global[n:])
		return
	}
	for far := 1; far < len(w.seats); far++ {
		from := &w.seats[(w.at+far)%len(w.seats)]
		if n := (len(from.list) + 1) / 2; n > 0 {
			mine.list = slices.Clone(from.list[:n])
			from.list = slices.Clone(from.list[n:])
			return
		}
		if from.next != 0 {
			mine.list, from.next = []int{from.next}, 0
			return
		}
	}
}

func (w *player) event(task, op, obj, value int) {
	w.r.Trace = append(w.r.Trace, api.Event{Task: task, Op: op, Obj: obj, Value: value})
}

func (w *player) panics(task, obj int) {
	w.event(task, api.OpPanic, obj, 0)
	w.r.State = api.Panics
}

func (w *player) putNext(task int) {
	mine := &w.seats[w.at]
	if mine.next != 0 {
		mine.list = append(mine.list, mine.next)
	}
	mine.next = task
}

// wake has a task have done the instruction at which it waits.
func (w *player) wake(task int) {
	w.r.Tasks[task-1] = 0
	w.pc[task]++
	w.putNext(task)
}

// instr is a task's next instruction.
func (w *player) instr(task int) api.Instr {
	if w.pc[task] == len(w.p.Code) {
		return api.Instr{Op: api.OpEnd}
	}
	return w.p.Code[w.pc[task]]
}

// do has a task do its next instruction: does its processor still go on with it, if it can go on?
func (w *player) do(task int) bool {
	i, regs, stays := w.instr(task), &w.regs[task], true
	wait := func() { w.r.Tasks[task-1] = 1 }
	switch i.Op {
	case api.OpSend:
		w.send(task, i, wait)
		return true
	case api.OpGet:
		w.get(task, i, wait)
		return true
	case api.OpShut:
		w.shut(task, i)
		return true
	case api.OpLock, api.OpUnlock:
		w.hold(task, i, wait)
		return true
	case api.OpCount, api.OpWait:
		w.group(task, i, wait)
		return true
	}
	w.pc[task]++
	switch i.Op {
	case api.OpSet:
		regs[i.A] = i.B
	case api.OpCopy:
		regs[i.A] = regs[i.B]
	case api.OpAdd:
		regs[i.A] += regs[i.B]
	case api.OpSub:
		regs[i.A] -= regs[i.B]
	case api.OpLess:
		regs[i.A] = map[bool]int{true: 1}[regs[i.A] < regs[i.B]]
	case api.OpJump:
		w.pc[task] = i.A
	case api.OpZero:
		if regs[i.A] == 0 {
			w.pc[task] = i.B
		}
	case api.OpPrint:
		w.event(task, i.Op, 0, regs[i.A])
	case api.OpEnd:
		w.event(task, i.Op, 0, 0)
		w.r.Tasks[task-1] = 3
		if task == 1 {
			w.r.State = api.Ended
		}
	case api.OpYield:
		w.global = append(w.global, task)
		stays = false
	case api.OpGo:
		w.begin(task, i)
	case api.OpLoad:
		regs[i.A] = w.r.Cells[i.B]
		w.event(task, i.Op, i.B, regs[i.A])
	case api.OpStore:
		w.r.Cells[i.A] = regs[i.B]
		w.event(task, i.Op, i.A, regs[i.B])
	case api.OpSleep:
		stays = w.sleep(task, regs[i.A])
	case api.OpPanic:
		w.panics(task, 0)
	}
	return stays
}

func (w *player) begin(task int, i api.Instr) {
	if len(w.r.Tasks) == 64 {
		w.r.State = api.Full
		return
	}
	w.r.Tasks = append(w.r.Tasks, 0)
	other := len(w.r.Tasks)
	w.pc[other], w.regs[other] = i.A, [8]int{w.regs[task][i.B]}
	w.event(task, api.OpGo, 0, other)
	w.putNext(other)
}

func (w *player) sleep(task, ticks int) bool {
	switch {
	case ticks <= 0:
		w.global = append(w.global, task)
	case ticks > 1000000000:
		w.panics(task, 0)
	default:
		w.r.Tasks[task-1] = 2
		w.beds = append(w.beds, asleep{task, w.r.Now + ticks, w.r.Steps})
	}
	return false
}

// got has a getter have a value, at its instruction.
func (w *player) got(task, value int, ok bool) {
	i := w.instr(task)
	w.regs[task][i.A] = value
	w.regs[task][7] = map[bool]int{true: 1}[ok]
	w.event(task, api.OpGet, i.B, value)
}

func (w *player) send(task int, i api.Instr, wait func()) {
	tube, value := &w.tubes[i.A], w.regs[task][i.B]
	if tube.closed {
		w.panics(task, i.A)
		return
	}
	if len(tube.getters) == 0 && len(tube.items) == w.p.Pipes[i.A] {
		tube.senders = append(tube.senders, task)
		wait()
		return
	}
	w.event(task, api.OpSend, i.A, value)
	w.pc[task]++
	if len(tube.getters) == 0 {
		tube.items = append(tube.items, value)
		return
	}
	getter := tube.getters[0]
	tube.getters = tube.getters[1:]
	w.got(getter, value, true)
	w.wake(getter)
}

func (w *player) get(task int, i api.Instr, wait func()) {
	tube := &w.tubes[i.B]
	// sent has the first sender have sent: what it sent.
	sent := func() int {
		sender := tube.senders[0]
		tube.senders = tube.senders[1:]
		value := w.regs[sender][w.instr(sender).B]
		w.event(sender, api.OpSend, i.B, value)
		w.wake(sender)
		return value
	}
	switch {
	case len(tube.items) > 0:
		w.got(task, tube.items[0], true)
		tube.items = slices.Clone(tube.items[1:])
		if len(tube.senders) > 0 {
			tube.items = append(tube.items, sent())
		}
	case len(tube.senders) > 0:
		w.got(task, sent(), true)
	case tube.closed:
		w.got(task, 0, false)
	default:
		tube.getters = append(tube.getters, task)
		wait()
		return
	}
	w.pc[task]++
}

func (w *player) shut(task int, i api.Instr) {
	tube := &w.tubes[i.A]
	if tube.closed {
		w.panics(task, i.A)
		return
	}
	tube.closed = true
	w.event(task, api.OpShut, i.A, 0)
	w.pc[task]++
	for _, getter := range tube.getters {
		w.got(getter, 0, false)
		w.wake(getter)
	}
	tube.getters = nil
	if len(tube.senders) > 0 {
		w.wake(tube.senders[0])
		w.panics(tube.senders[0], i.A)
	}
}

func (w *player) hold(task int, i api.Instr, wait func()) {
	b := &w.bolts[i.A]
	free := func(write bool) bool { return !b.writer && (!write || b.readers == 0) }
	take := func(write bool) {
		if write {
			b.writer = true
		} else {
			b.readers++
		}
	}
	write := i.B == 1
	switch {
	case i.Op == api.OpLock && (len(b.line) > 0 || !free(write)):
		b.line = append(b.line, task)
		wait()
		return
	case i.Op == api.OpLock:
		take(write)
	case write && !b.writer, !write && b.readers == 0:
		w.panics(task, i.A)
		return
	case write:
		b.writer = false
	default:
		b.readers--
	}
	w.event(task, i.Op, i.A, i.B)
	w.pc[task]++
	for len(b.line) > 0 && free(w.instr(b.line[0]).B == 1) {
		first := b.line[0]
		b.line = b.line[1:]
		take(w.instr(first).B == 1)
		w.event(first, api.OpLock, i.A, w.instr(first).B)
		w.wake(first)
	}
}

func (w *player) group(task int, i api.Instr, wait func()) {
	g, n := &w.sums[i.A], 0
	if i.Op == api.OpCount {
		n = w.regs[task][i.B]
	}
	const most = 1000000000
	switch {
	case i.Op == api.OpWait && g.count > 0:
		g.line = append(g.line, task)
		wait()
		return
	case n < -most || n > most || g.count+n < 0 || g.count+n > most:
		w.panics(task, i.A)
		return
	}
	g.count += n
	w.event(task, i.Op, i.A, n)
	w.pc[task]++
	if g.count > 0 {
		return
	}
	for _, other := range g.line {
		w.event(other, api.OpWait, i.A, 0)
		w.wake(other)
	}
	g.line = nil
}
