package clock_test

import (
	"cmp"
	"math"
	"math/rand"
	"slices"
	"testing"

	"taskmill/api"
	"taskmill/clock"
)

// rule is a fault, and whether it applies.
type rule struct {
	applies bool
	f       api.Fault
}

// firstOf is the first fault that applies.
func firstOf(rules ...rule) api.Fault {
	for _, r := range rules {
		if r.applies {
			return r.f
		}
	}
	return none
}

func outside(n, low, high int) bool { return n < low || n > high }

// clockRules are a clock's faults as the document names them.
func clockRules(c api.Clock) []rule {
	rules := []rule{
		{len(c.List) > most, fault(api.ErrMany, 0)},
		{outside(c.Now, 0, much) || outside(c.Next, 0, much), fault(api.ErrRange, 0)},
	}
	for i, one := range c.List {
		wrong := one.Id < 1 || one.When <= c.Now || one.When > 2*much || outside(one.Period, 0, much) || one.Seq < 0 || one.Seq >= c.Next
		twice, behind := false, false
		for _, other := range c.List[:i] {
			twice = twice || other.Id == one.Id || other.Seq == one.Seq
			behind = behind || other.When > one.When || other.When == one.When && other.Seq > one.Seq
		}
		rules = append(rules,
			rule{wrong, fault(api.ErrRange, i+1)},
			rule{twice, fault(api.ErrTwice, i+1)},
			rule{behind, fault(api.ErrForm, i+1)})
	}
	return rules
}

// others are the alarms but that with the Id.
func others(list []api.Alarm, id int) []api.Alarm {
	var left []api.Alarm
	for _, one := range list {
		if one.Id != id {
			left = append(left, one)
		}
	}
	return left
}

// inOrder are the alarms by When, then by Seq.
func inOrder(list []api.Alarm) []api.Alarm {
	return slices.SortedFunc(slices.Values(list), func(a, b api.Alarm) int {
		return cmp.Or(cmp.Compare(a.When, b.When), cmp.Compare(a.Seq, b.Seq))
	})
}

func setByTheWords(c api.Clock, id, after, period int) string {
	left := others(c.List, id)
	rules := append(clockRules(c),
		rule{id < 1 || outside(after, 1, much) || outside(period, 0, much), fault(api.ErrRange, -1)},
		rule{len(left) >= most || c.Next == much, fault(api.ErrMuch, 0)})
	if f := firstOf(rules...); f != none {
		return told(api.Clock{}, false, f)
	}
	list := inOrder(plus(left, alarm(id, c.Now+after, period, c.Next)))
	return told(clockOf(c.Now, c.Next+1, list...), len(left) < len(c.List), none)
}

func stopByTheWords(c api.Clock, id int) string {
	if f := firstOf(clockRules(c)...); f != none {
		return told(api.Clock{}, false, f)
	}
	left := others(c.List, id)
	return told(clockOf(c.Now, c.Next, left...), len(left) < len(c.List), none)
}

func passByTheWords(c api.Clock, ticks int) string {
	rules := append(clockRules(c),
		rule{outside(ticks, 0, much), fault(api.ErrRange, -1)},
		rule{c.Now > much-ticks, fault(api.ErrMuch, 0)})
	if f := firstOf(rules...); f != none {
		return told(api.Clock{}, [][2]int{}, f)
	}
	then, off := played(c, ticks)
	if len(off) > most || then.Next > much {
		return told(api.Clock{}, [][2]int{}, fault(api.ErrMuch, 0))
	}
	return told(then, off, none)
}

// played is the clock after so many ticks, and what went off, at most one more than MaxList.
func played(c api.Clock, ticks int) (api.Clock, [][2]int) {
	list, end := c.List, c.Now+ticks
	var off [][2]int
	for len(list) > 0 && list[0].When <= end && len(off) <= most {
		first := list[0]
		off = append(off, [2]int{first.When, first.Id})
		list = list[1:]
		if first.Period > 0 {
			list = inOrder(plus(list, alarm(first.Id, first.When+first.Period, first.Period, c.Next)))
			c.Next++
		}
	}
	return clockOf(end, c.Next, list...), off
}

func soonByTheWords(c api.Clock) string {
	rules := append(clockRules(c), rule{len(c.List) == 0, fault(api.ErrNone, 0)})
	if f := firstOf(rules...); f != none {
		return told(0, f)
	}
	return told(c.List[0].When-c.Now, none)
}

// smallAlarms are all alarms with small numbers.
func smallAlarms() []api.Alarm {
	var list []api.Alarm
	for id := range 3 {
		for when := 1; when <= 4; when++ {
			for period := -1; period <= 1; period++ {
				for seq := -1; seq <= 2; seq++ {
					list = append(list, alarm(id, when, period, seq))
				}
			}
		}
	}
	return list
}

// P9.1, at all clocks of two small alarms: what the document's words say.
func TestCheckByTheWords(t *testing.T) {
	codes := map[int]int{}
	for _, one := range smallAlarms() {
		for _, other := range smallAlarms() {
			c := clockOf(1, 2, one, other)
			f := clock.Check(c)
			same(t, "check", f, firstOf(clockRules(c)...))
			codes[f.Code]++
		}
	}
	for _, code := range []int{api.OK, api.ErrRange, api.ErrTwice, api.ErrForm} {
		if codes[code] < 10 {
			t.Errorf("not all kinds were asked: %v", codes)
		}
	}
}

// likely is a clock that is mostly right: up to seven alarms in order.
func likely(r *rand.Rand) api.Clock {
	c := clockOf(r.Intn(5), 7+r.Intn(3))
	if r.Intn(8) == 0 {
		c.Next = much - r.Intn(8)
	}
	if r.Intn(8) == 0 {
		c.Now = much - r.Intn(12)
	}
	names, seqs := r.Perm(7), r.Perm(7)
	for i := range r.Intn(8) {
		c.List = append(c.List, alarm(1+names[i], c.Now+1+r.Intn(8), r.Intn(5), seqs[i]))
	}
	c.List = inOrder(c.List)
	if n := len(c.List); n > 1 && r.Intn(8) == 0 {
		i := r.Intn(n - 1)
		c.List[i], c.List[i+1] = c.List[i+1], c.List[i]
	}
	return c
}

// P9.1 to P9.4, and Soon, at many clocks: what the document's words say.
func TestByTheWords(t *testing.T) {
	r := rand.New(rand.NewSource(3))
	codes := map[int]int{}
	for range 30000 {
		c, id, after, period, ticks := likely(r), r.Intn(9), r.Intn(10), r.Intn(4)-r.Intn(2), r.Intn(16)-r.Intn(2)
		same(t, "check", clock.Check(c), firstOf(clockRules(c)...))
		then, was, f := clock.Set(c, id, after, period)
		same(t, "set", told(then, was, f), setByTheWords(c, id, after, period))
		codes[f.Code]++
		then, was, f = clock.Stop(c, id)
		same(t, "stop", told(then, was, f), stopByTheWords(c, id))
		codes[f.Code]++
		then, off, f := clock.Pass(c, ticks)
		same(t, "pass", told(then, off, f), passByTheWords(c, ticks))
		codes[f.Code]++
		left, f := clock.Soon(c)
		same(t, "soon", told(left, f), soonByTheWords(c))
		codes[f.Code]++
	}
	for _, code := range []int{api.OK, api.ErrRange, api.ErrForm, api.ErrMuch, api.ErrNone} {
		if codes[code] < 100 {
			t.Errorf("not all kinds were asked: %v", codes)
		}
	}
}

// P9.4, where many alarms go off in turns: what the document's words say.
func TestManyByTheWords(t *testing.T) {
	r := rand.New(rand.NewSource(8))
	for range 20 {
		c := clockOf(0, 400)
		for i, seq := range r.Perm(400) {
			c.List = append(c.List, alarm(i+1, 1+r.Intn(200), r.Intn(40), seq))
		}
		c.List = inOrder(c.List)
		ticks := 20 + r.Intn(60)
		then, off, f := clock.Pass(c, ticks)
		same(t, "pass", told(then, off, f), passByTheWords(c, ticks))
	}
}

// wildNumber is mostly a small one, at times one of the farthest.
func wildNumber(r *rand.Rand) int {
	far := []int{math.MinInt, math.MaxInt, -1, 0, much - 1, much, much + 1, 2 * much, 2*much + 1, -much, most, most + 1, 1 << 32}
	if r.Intn(16) == 0 {
		return far[r.Intn(len(far))]
	}
	return 1 + r.Intn(9)
}

func wildClock(r *rand.Rand) api.Clock {
	c := clockOf(wildNumber(r)/3, wildNumber(r)+r.Intn(9))
	for range r.Intn(4) {
		c.List = append(c.List, alarm(wildNumber(r), wildNumber(r), wildNumber(r), wildNumber(r)-1))
	}
	if r.Intn(3) > 0 {
		c.List = inOrder(c.List)
	}
	return c
}

// saying is what a call answers beside its fault, as it is told, and what that is with a fault.
type saying struct {
	what, rest, zero string
	f                api.Fault
}

func tellAll(c api.Clock, id, after, period, ticks int) []saying {
	set, was, setF := clock.Set(c, id, after, period)
	stopped, went, stopF := clock.Stop(c, id)
	passed, off, passF := clock.Pass(c, ticks)
	soon, soonF := clock.Soon(c)
	return []saying{
		{"set", told(set, was), told(api.Clock{}, false), setF},
		{"stop", told(stopped, went), told(api.Clock{}, false), stopF},
		{"pass", told(passed, off), told(api.Clock{}, [][2]int{}), passF},
		{"soon", told(soon), told(0), soonF},
	}
}

// P1: no call panics whatever it is given, each answers the same again, and with a fault there is nothing else.
func TestWildInputs(t *testing.T) {
	r := rand.New(rand.NewSource(5))
	right := map[string]int{}
	for range 20000 {
		c, id, after, period, ticks := wildClock(r), wildNumber(r), wildNumber(r), wildNumber(r), wildNumber(r)
		again := tellAll(c, id, after, period, ticks)
		for i, one := range tellAll(c, id, after, period, ticks) {
			same(t, one.what+", again", one, again[i])
			if one.f == none {
				right[one.what]++
			} else {
				same(t, one.what+": beside the fault", one.rest, one.zero)
			}
		}
		same(t, "check", clock.Check(c), firstOf(clockRules(c)...))
	}
	for _, what := range []string{"set", "stop", "pass", "soon"} {
		if n := right[what]; n < 1000 || n > 19000 {
			t.Errorf("%s: %d were right", what, n)
		}
	}
}
