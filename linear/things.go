package linear

import (
	"slices"

	"taskmill/api"
)

// Kinds of things.
const (
	kindQueue    = 1
	kindRegister = 2
	kindCounter  = 3
)

// form is of which thing a call's Kind is, and which fields it speaks of.
type form struct {
	thing             int
	arg, old, ret, ok bool
}

// forms answers those of all Kinds of calls.
func forms() map[int]form {
	return map[int]form{
		api.CallPut:   {thing: kindQueue, arg: true},
		api.CallTake:  {thing: kindQueue, ret: true, ok: true},
		api.CallWrite: {thing: kindRegister, arg: true},
		api.CallRead:  {thing: kindRegister, ret: true},
		api.CallCas:   {thing: kindRegister, arg: true, old: true, ok: true},
		api.CallInc:   {thing: kindCounter, arg: true, ret: true},
	}
}

// saysTooMuch: is a field not zero that the call's Kind does not speak of?
func (f form) saysTooMuch(c api.Call) bool {
	if c.Kind == api.CallTake && !c.Ok {
		f.ret = false // nothing was taken that could be told
	}
	return !f.arg && c.Arg != 0 || !f.old && c.Old != 0 || !f.ret && c.Ret != 0 || !f.ok && c.Ok
}

// thing is what calls are of, as it stands between two of them. It is never changed, so that a search may come back to it.
type thing interface {
	// do answers the thing behind a call of it, and whether the call tells what it should.
	do(c api.Call) (thing, bool)
}

// newThing answers a thing as it is at first; nil: there is no such kind.
func newThing(kind int) thing {
	switch kind {
	case kindQueue:
		return queue{}
	case kindRegister:
		return register{}
	case kindCounter:
		return counter{}
	}
	return nil
}

// queue holds items, the first one first.
type queue struct {
	items []int
}

func (q queue) do(c api.Call) (thing, bool) {
	switch {
	case c.Kind == api.CallPut:
		return queue{items: append(slices.Clip(q.items), c.Arg)}, true
	case !c.Ok:
		return q, len(q.items) == 0
	case len(q.items) == 0 || q.items[0] != c.Ret:
		return q, false
	}
	return queue{items: q.items[1:]}, true
}

// register holds what was written last.
type register struct {
	value int
}

func (r register) do(c api.Call) (thing, bool) {
	switch {
	case c.Kind == api.CallWrite:
		return register{value: c.Arg}, true
	case c.Kind == api.CallRead:
		return r, r.value == c.Ret
	case !c.Ok:
		return r, r.value != c.Old
	}
	return register{value: c.Arg}, r.value == c.Old
}

// counter holds the sum of what was added.
type counter struct {
	sum int
}

func (n counter) do(c api.Call) (thing, bool) {
	sum := n.sum + c.Arg
	return counter{sum: sum}, sum == c.Ret
}
