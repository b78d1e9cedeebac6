package poll

import "taskmill/api"

// ways is how many ways a descriptor has: to read is 0, to write is 1.
const ways = 2

// wrongOn answers the code of what is wrong with a way.
func wrongOn(d api.Desc, way int) int {
	ready, waited, bound := d.Ready[way], d.Task[way] != 0, d.Until[way] != 0
	switch {
	case d.Task[way] < 0 || !isTime(d.Until[way]):
		return api.ErrRange
	case d.Closed && (ready || waited || bound):
		return api.ErrForm
	case ready && waited:
		return api.ErrForm
	}
	return api.OK
}

// lateOn: is a descriptor late on a way at a time?
func lateOn(d api.Desc, way, now int) bool {
	return d.Until[way] != 0 && d.Until[way] <= now
}

// leave has who waits on a way go: the descriptor then, and who it is (0: nobody).
func leave(d api.Desc, way int) (api.Desc, int) {
	task := d.Task[way]
	d.Task[way] = 0
	return d, task
}

// isTime: can a number be a time?
func isTime(n int) bool {
	return n >= 0 && n <= api.MaxNum
}
