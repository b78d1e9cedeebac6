package world

import (
	"slices"
	"testing"

	"taskmill/api"
)

// What spills out of a ring comes to the end of the global queue. (No run gets there: it has fewer tasks than a ring holds.)
func TestSpilt(t *testing.T) {
	m := newMachine(api.Program{}, 1)
	for len(m.Tasks) < api.MaxRing+2 {
		m.born(0, 0)
	}
	m.mine = &m.procs[0]
	m.Tasks[1] = waits
	m.mine.Next = 3
	for by := 4; len(m.mine.List) < api.MaxRing-1; by++ {
		m.mine.List = append(m.mine.List, by)
	}
	last := api.MaxRing + 3
	m.born(0, 0)
	m.ready(last)
	if m.mine.Next != last || len(m.mine.List) != api.MaxRing || m.mine.List[api.MaxRing-1] != 3 || !slices.Equal(m.global, []int{1}) {
		t.Fatalf("the ring is just full: got %v, and the global queue %v", m.mine.Ring, m.global)
	}
	half := api.MaxRing / 2
	stay := slices.Clone(m.mine.List[half:])
	spilt := slices.Concat([]int{1}, m.mine.List[:half], []int{last})
	m.ready(2)
	if m.mine.Next != 2 || !slices.Equal(m.mine.List, stay) || !slices.Equal(m.global, spilt) || m.Tasks[1] != canGo {
		t.Errorf("got the ring %v, and the global queue %v; want 2 as Next, List %v, and %v", m.mine.Ring, m.global, stay, spilt)
	}
}
