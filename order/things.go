package order

// nobody is no task's number.
const nobody = 0

// toWrite is the Value of who enters or leaves a lock to write.
const toWrite = 1

// sent is a send to a pipe.
type sent struct {
	task int
	when clock
}

// pipe is what was done with a pipe so far.
type pipe struct {
	sends []sent  // by their numbers
	gets  []clock // by their numbers
	shut  clock   // the last OpShut; if there was none, nothing
}

// isSpent: have all sends their gets? (Who gets then finds the pipe closed, and has no number.)
func (p *pipe) isSpent() bool {
	return len(p.gets) == len(p.sends)
}

// aheadOfSend answers what happens before the next send to the pipe, which holds so many: the get that made room for it, if it has come.
// (If it holds 0, that would be the send's own get, which never has.)
func (p *pipe) aheadOfSend(holds int) clock {
	get := len(p.sends) - holds
	if get < 0 || get >= len(p.gets) {
		return clock{}
	}
	return p.gets[get]
}

// aheadOfGet answers what happens before the next get.
func (p *pipe) aheadOfGet() clock {
	if p.isSpent() {
		return p.shut
	}
	return p.sends[len(p.gets)].when
}

func (p *pipe) keepSend(by int, now clock) {
	p.sends = append(p.sends, sent{task: by, when: now})
}

// keepGet keeps a get, if it has a number: the task of the send with the same number, or nobody.
func (p *pipe) keepGet(now clock) int {
	if p.isSpent() {
		return nobody
	}
	by := p.sends[len(p.gets)].task
	p.gets = append(p.gets, now)
	return by
}

// lock is what happens before the next OpLock of a lock, by each OpUnlock so far.
type lock struct {
	writers clock
	all     clock // readers, too
}

// aheadOfLock answers what happens before somebody enters the lock: of readers only who enters to write need know.
func (l *lock) aheadOfLock(value int) clock {
	if value == toWrite {
		return l.all
	}
	return l.writers
}

func (l *lock) keepUnlock(value int, now clock) {
	l.all.join(now)
	if value == toWrite {
		l.writers.join(now)
	}
}
