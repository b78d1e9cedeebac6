package order_test

import (
	"math/rand"
	"testing"
)

// table is what Before tells of all pairs of a trace.
func (o anOrder) table(t *testing.T) [][]bool {
	t.Helper()
	before := make([][]bool, len(o.trace))
	for i := range o.trace {
		for k := range o.trace {
			before[i] = append(before[i], happens(t, o.trace, o.pipes, i, k))
		}
	}
	return before
}

// What follows: it is a partial order, and agrees with the order of the trace.
func TestPartialOrder(t *testing.T) {
	r := rand.New(rand.NewSource(141))
	before, beside := 0, 0
	for range 300 {
		o := anyOrder(r, t)
		is := o.table(t)
		for i := range is {
			for k := range is {
				switch {
				case is[i][k] && i >= k:
					t.Fatalf("%d happens before %d, which is no later one, of %v %v", i, k, o.trace, o.pipes)
				case is[i][k]:
					before++
				case i < k:
					beside++
				}
				for l := range is {
					if is[i][k] && is[k][l] && !is[i][l] {
						t.Fatalf("%d happens before %d, and that before %d, of %v %v", i, k, l, o.trace, o.pipes)
					}
				}
			}
		}
	}
	if before < 1000 || beside < 1000 {
		t.Errorf("%d before others, %d beside", before, beside)
	}
}

// What follows: an event happens before another one just where the other one's clock tells as many of its task, or more.
func TestClocksTellBefore(t *testing.T) {
	r := rand.New(rand.NewSource(142))
	for range 300 {
		o := anyOrder(r, t)
		is, clocks := o.table(t), clocksTold(t, o.trace, o.pipes)
		for i, e := range o.trace {
			for k := range o.trace {
				tells := clocks[k][e.Task-1] >= clocks[i][e.Task-1]
				if i != k && tells != is[i][k] {
					t.Fatalf("%d %d: the clocks tell %v, Before tells %v, of %v %v", i, k, tells, is[i][k], o.trace, o.pipes)
				}
			}
		}
	}
}

// P13.2: a clock tells how many happen before, by Before's own answers; and of an event's own task how many have come.
func TestClocksCountBefore(t *testing.T) {
	r := rand.New(rand.NewSource(143))
	for range 300 {
		o := anyOrder(r, t)
		is, clocks := o.table(t), clocksTold(t, o.trace, o.pipes)
		own := map[int]int{}
		for k, e := range o.trace {
			want := make([]int, greatest(o.trace))
			for i, other := range o.trace {
				if is[i][k] || i == k {
					want[other.Task-1]++
				}
			}
			same(t, "clock", clocks[k], want)
			own[e.Task]++
			same(t, "of its own task", clocks[k][e.Task-1], own[e.Task])
		}
	}
}
