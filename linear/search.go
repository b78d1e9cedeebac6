package linear

import (
	"math/bits"

	"taskmill/api"
)

// set is one of calls, a bit for each.
type set uint

func (s set) has(n int) bool        { return s>>n&1 == 1 }
func (s set) with(n int) set        { return s | 1<<n }
func (s set) without(other set) set { return s &^ other }
func (s set) size() int             { return bits.OnesCount(uint(s)) }

// allAhead answers of each call those that ended ahead of its Begin.
func allAhead(l []api.Call) []set {
	ahead := make([]set, len(l))
	for n, c := range l {
		for other, o := range l {
			if o.End < c.Begin {
				ahead[n] = ahead[n].with(other)
			}
		}
	}
	return ahead
}

// spot is all that what can still be done hangs on.
type spot struct {
	done  set
	value int               // of a register
	items [maxCalls / 2]int // of a queue, those that will be taken: each has its put and its take among the calls
}

// search for a linear order.
type search struct {
	calls []api.Call
	ahead []set
	takes set // the calls that take something
	seen  map[spot]struct{}
	order []int
}

func newSearch(l []api.Call) *search {
	s := &search{calls: l, ahead: allAhead(l), seen: map[spot]struct{}{}}
	for n, c := range l {
		if c.Kind == api.CallTake && c.Ok {
			s.takes = s.takes.with(n)
		}
	}
	return s
}

// find goes on with the calls that are not done, to their end. A spot that was seen need not be tried again: had it led to the end, the search would be over.
func (s *search) find(now thing, done set) bool {
	if done.size() == len(s.calls) {
		return true
	}
	here, open := s.look(now, done)
	if _, met := s.seen[here]; met || !open {
		return false
	}
	s.seen[here] = struct{}{}
	for n, c := range s.calls {
		if done.has(n) || s.ahead[n].without(done) != 0 {
			continue
		}
		next, isSo := now.do(c)
		if !isSo {
			continue
		}
		s.order = append(s.order, n)
		if s.find(next, done.with(n)) {
			return true
		}
		s.order = s.order[:len(s.order)-1]
	}
	return false
}

// look answers the spot where a thing stands when some calls are done; false: it is plain that the others can't be. What a counter holds hangs on the calls that are done alone.
func (s *search) look(now thing, done set) (spot, bool) {
	here := spot{done: done}
	switch t := now.(type) {
	case register:
		here.value = t.value
	case queue:
		left := s.takes.without(done)
		items := t.items[:min(len(t.items), left.size())]
		copy(here.items[:], items)
		return here, s.canTake(items, left)
	}
	return here, true
}

// canTake: has each item one of the takes for itself? Without this, orders of what is put would be tried that no takes agree with, and there can be hundreds of thousands of them.
func (s *search) canTake(items []int, takes set) bool {
	for _, item := range items {
		n := s.takeOf(item, takes)
		if n < 0 {
			return false
		}
		takes = takes.without(set(0).with(n))
	}
	return true
}

// takeOf answers the first one of some takes that takes an item; -1: there is none.
func (s *search) takeOf(item int, takes set) int {
	for n, c := range s.calls {
		if takes.has(n) && c.Ret == item {
			return n
		}
	}
	return -1
}
