package order_test

import (
	"math"
	"testing"

	"taskmill/api"
	"taskmill/order"
)

// P13.3: i or k is no event.
func TestBeforeNoEvent(t *testing.T) {
	for _, many := range []int{0, 1, 2, mostEvents} {
		trace := prints(many)
		wrong := []int{-1, many, many + 1, -2, math.MinInt, math.MaxInt, 1 << 32}
		for _, n := range wrong {
			for _, other := range append(wrong, 0, many-1) {
				is, f := order.Before(trace, nil, n, other)
				same(t, told(n, other, "of", many), told(is, f), told(false, fault(api.ErrRange, -1)))
				is, f = order.Before(trace, nil, other, n)
				same(t, told(other, n, "of", many), told(is, f), told(false, fault(api.ErrRange, -1)))
			}
		}
	}
}

// P13.3: i and k at the first and at the last event, equal, and the later one first.
func TestBeforeEdges(t *testing.T) {
	for _, many := range []int{1, 2, 3, mostEvents} {
		trace := prints(many)
		for _, i := range []int{0, many / 2, many - 1} {
			for _, k := range []int{0, many / 2, many - 1} {
				is, f := order.Before(trace, nil, i, k)
				same(t, told(i, k, "of", many), told(is, f), told(i < k, none))
			}
		}
	}
	apart := events("1 print; 2 print; 3 print")
	same(t, "events of three tasks", pairsOf(t, apart, nil), "")
}

// The chapter's example.
func TestExample(t *testing.T) {
	trace := events("1 store 0 5; 1 send 0 1; 2 get 0 1; 2 load 0 5")
	for _, holds := range []int{0, 1, 2, mostHolds} {
		is, f := order.Before(trace, []int{holds}, 0, 3)
		same(t, told("the store happens before the load, by a pipe of", holds), told(is, f), told(true, none))
		is, f = order.Before(trace, []int{holds}, 3, 0)
		same(t, "and not the other way round", told(is, f), told(false, none))
	}
	is, f := order.Before(events("1 store 0 5; 2 send 0 1; 2 get 0 1; 2 load 0 5"), []int{1}, 0, 3)
	same(t, "unless another one sends", told(is, f), told(false, none))
}
