package clock_test

import (
	"fmt"
	"math"
	"testing"

	"taskmill/api"
	"taskmill/clock"
)

// roomy is the list with more behind its length, which nobody may read or write; whole is as long as its memory.
func roomy(list []api.Alarm) (short, whole []api.Alarm) {
	behind := alarm(-77, -77, -77, -77)
	whole = plus(list, behind, behind, behind)
	return whole[:len(list)], whole
}

// answer is the lists that a call answers.
type answer struct {
	list []api.Alarm
	off  [][2]int
}

// spoil writes over all the memory of a list, also behind its length.
func spoil[E any](list []E, with E) {
	whole := list[:cap(list)]
	for i := range whole {
		whole[i] = with
	}
}

// ask is a call of a clock, with a name.
type ask struct {
	what string
	call func(c api.Clock) answer
}

func asks() []ask {
	check := func(c api.Clock) answer {
		clock.Check(c)
		clock.Soon(c)
		return answer{}
	}
	set := func(id, after, period int) func(c api.Clock) answer {
		return func(c api.Clock) answer {
			then, _, _ := clock.Set(c, id, after, period)
			return answer{list: then.List}
		}
	}
	stop := func(id int) func(c api.Clock) answer {
		return func(c api.Clock) answer {
			then, _, _ := clock.Stop(c, id)
			return answer{list: then.List}
		}
	}
	pass := func(ticks int) func(c api.Clock) answer {
		return func(c api.Clock) answer {
			then, off, _ := clock.Pass(c, ticks)
			return answer{list: then.List, off: off}
		}
	}
	return []ask{
		{"check and soon", check},
		{"set ahead of all", set(9*most, 1, 0)},
		{"set behind all", set(9*most, much, 3)},
		{"set the first anew", set(1, much, 3)},
		{"set another anew", set(2, 1, 3)},
		{"set wrongly", set(0, 1, 1)},
		{"stop the first", stop(1)},
		{"stop another", stop(2)},
		{"stop one that is not there", stop(math.MaxInt)},
		{"pass nothing", pass(0)},
		{"pass up to the first", pass(2)},
		{"pass a while", pass(7)},
		{"pass long", pass(most)},
		{"pass far too long", pass(much)},
		{"pass wrongly", pass(-1)},
	}
}

// Lists that are handed in are only read, what lies behind their length is neither read nor written,
// what is answered is new memory, and no two lists of one answer share any.
func TestMemoryIsApart(t *testing.T) {
	clocks := []api.Clock{
		{},
		{List: []api.Alarm{}},
		clockOf(0, 1, once(1, 2, 0)),
		clockOf(0, 1, alarm(1, 2, 3, 0)),
		clockOf(0, 3, alarm(3, 2, 2, 0), once(1, 2, 1), alarm(2, 5, 1, 2)),
		clockOf(0, 3, once(3, 2, 0), once(1, 4, 1), once(2, 5, 2)),
		clockOf(0, most, many(1, most-1, 2, 0)...),
		clockOf(0, most, many(1, most, 2, 0)...),
		clockOf(0, most, many(1, most, 2, 50)...),
		clockOf(0, 1, once(1, 2, 0), once(1, 2, 0)),
	}
	for _, c := range clocks {
		for _, a := range asks() {
			apart(t, a, c)
		}
	}
}

// apart spoils each list of an answer, and looks at what else has changed.
func apart(t *testing.T, a ask, c api.Clock) {
	t.Helper()
	short, whole := roomy(c.List)
	before, want := fmt.Sprint(whole), fmt.Sprint(a.call(c))
	c.List = short

	got := a.call(c)
	same(t, a.what+": with more behind", got, want)
	off := fmt.Sprint(got.off)
	spoil(got.list, alarm(4444, 4444, 4444, 4444))
	same(t, a.what+": what went off", got.off, off)
	same(t, a.what+": what was handed in", whole, before)
	same(t, a.what+": the next answer", a.call(c), want)

	got = a.call(c)
	list := fmt.Sprint(got.list)
	spoil(got.off, [2]int{4444, 4444})
	same(t, a.what+": the alarms", got.list, list)
	same(t, a.what+": what was handed in, again", whole, before)
	same(t, a.what+": the next answer, again", a.call(c), want)
}
