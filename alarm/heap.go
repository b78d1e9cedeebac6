package alarm

import "taskmill/api"

// fours is how many timers stand below one, at most.
const fours = 4

func sooner(a, b api.Timer) bool {
	return a.When < b.When
}

// above is the place above i; above 0 there is none.
func above(i int) int {
	return (i - 1) / fours
}

// haveBelow is how many places of a heap of n timers have some below: these are its first ones.
func haveBelow(n int) int {
	return (n + fours - 2) / fours
}

// soonest is the place of the soonest timer below i that is sooner than the one at i; i, if none is.
func soonest(h []api.Timer, i int) int {
	place := i
	first := fours*i + 1
	for k := first; k < min(first+fours, len(h)); k++ {
		if sooner(h[k], h[place]) { // not of one When: the least place stays
			place = k
		}
	}
	return place
}

// rise has the timer at i rise, in h itself, and answers its place then.
func rise(h []api.Timer, i int) int {
	for i > 0 && sooner(h[i], h[above(i)]) {
		h[i], h[above(i)] = h[above(i)], h[i]
		i = above(i)
	}
	return i
}

// sink has the timer at i sink, in h itself.
func sink(h []api.Timer, i int) {
sinking:
	for {
		switch next := soonest(h, i); next {
		case i:
			break sinking
		default:
			h[i], h[next] = h[next], h[i]
			i = next
		}
	}
}

// without takes the timer at i out of h itself. Only one that stays where it came sinks: below one that has risen, all are later.
func without(h []api.Timer, i int) []api.Timer {
	last := len(h) - 1
	h[i] = h[last]
	h = h[:last]
	if i < last && rise(h, i) == i {
		sink(h, i)
	}
	return h
}
