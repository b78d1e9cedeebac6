package linear_test

import (
	"math/rand"
	"testing"

	"taskmill/api"
	"taskmill/linear"
)

// The chapter's example.
func TestExample(t *testing.T) {
	l := calls("0-2 put 1; 1-3 put 2; 4-5 take 2")
	same(t, "check", linear.Check(aQueue, l), none)
	order, f := linear.Find(aQueue, l)
	same(t, "find", told(order, f), told([]int{1, 0, 2}, none))
	same(t, "play", linear.Play(aQueue, l, []int{1, 0, 2}), none)
	same(t, "another order", linear.Play(aQueue, l, []int{0, 1, 2}), fault(api.ErrFalse, 2))
}

// What follows: Find's order is one of which Play says nothing, also of as many calls as may be.
func TestFoundIsPlayed(t *testing.T) {
	r := rand.New(rand.NewSource(251))
	for range 6000 {
		kind := 1 + r.Intn(kindsCount)
		l := trueCalls(r, kind, r.Intn(mostCalls+1))
		askSome(t, "calls that tell what they should", kind, l)
	}
	some, no := 0, 0
	for range 20000 {
		kind := 1 + r.Intn(kindsCount)
		l := anyCalls(r, kind, r.Intn(7))
		order, f := linear.Find(kind, l)
		if f != none {
			no++
			same(t, "none", told(order, f), told([]int{}, fault(api.ErrNone, 0)))
			continue
		}
		some++
		same(t, "played", linear.Play(kind, l, order), none)
	}
	if some < 2000 || no < 2000 {
		t.Errorf("%d with an order, %d without", some, no)
	}
}

// longer are calls some of which begin sooner, or end later.
func longer(r *rand.Rand, l []api.Call) []api.Call {
	var list []api.Call
	for _, c := range l {
		if r.Intn(2) == 0 {
			c.Begin -= r.Intn(c.Begin + 1)
		}
		if r.Intn(2) == 0 {
			c.End += r.Intn(30)
		}
		list = append(list, c)
	}
	return list
}

// shorter are calls some of which begin later, or end sooner.
func shorter(r *rand.Rand, l []api.Call) []api.Call {
	var list []api.Call
	for _, c := range l {
		if r.Intn(2) == 0 {
			c.Begin += r.Intn(c.End - c.Begin)
		}
		if r.Intn(2) == 0 {
			c.End -= r.Intn(c.End - c.Begin)
		}
		list = append(list, c)
	}
	return list
}

// What follows: calls that begin sooner or end later keep a linear order; what has none has none, if they begin later or end sooner.
func TestMoreOrLessThatOverlap(t *testing.T) {
	r := rand.New(rand.NewSource(252))
	kept, lost, no := 0, 0, 0
	for range 20000 {
		kind := 1 + r.Intn(kindsCount)
		l := nearlyTrueCalls(r, kind, r.Intn(9))
		order, f := linear.Find(kind, l)
		if f != none {
			no++
			askNone(t, "none, and less that overlap", kind, shorter(r, l))
			continue
		}
		more := longer(r, l)
		same(t, "an order, and more that overlap", linear.Play(kind, more, order), none)
		askSome(t, "found, and more that overlap", kind, more)
		kept++
		if _, f = linear.Find(kind, shorter(r, l)); f != none {
			lost++
		}
	}
	if kept < 2000 || lost < 200 || no < 2000 {
		t.Errorf("%d with an order, %d of which less that overlap had none; %d without", kept, lost, no)
	}
}

// What follows, told once: what overlaps no longer, has no order any more, and what overlaps again, has one again.
func TestOverlapsNoLonger(t *testing.T) {
	askSome(t, "overlap", aQueue, calls("0-3 put 1; 3-4 put 2; 5-6 take 2"))
	askNone(t, "one ends sooner", aQueue, calls("0-2 put 1; 3-4 put 2; 5-6 take 2"))
	askSome(t, "overlap", aQueue, calls("0-2 put 1; 2-4 put 2; 5-6 take 2"))
	askNone(t, "one begins later", aQueue, calls("0-2 put 1; 3-4 put 2; 5-6 take 2"))
}
