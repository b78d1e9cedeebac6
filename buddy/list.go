package buddy

import (
	"slices"
	"sort"

	"taskmill/api"
)

// placeOf answers how many blocks of a list start ahead of start.
func placeOf(list []api.Block, start int) int {
	return sort.Search(len(list), func(i int) bool { return list[i].Start >= start })
}

// holds: is a block in a list?
func holds(list []api.Block, one api.Block) bool {
	at := placeOf(list, one.Start)
	return at < len(list) && list[at] == one
}

// least answers the first one of the smallest blocks of which ask tells true, and whether there is one.
func least(list []api.Block, ask func(one api.Block) bool) (api.Block, bool) {
	var found api.Block
	there := false
	for _, one := range list {
		if ask(one) && (!there || one.Size < found.Size) {
			found, there = one, true
		}
	}
	return found, there
}

// part: is each of so many units in one block of two lists? Both rise, and none of their blocks ends behind the units.
func part(used, free []api.Block, units int) bool {
	next := 0
	for next < units {
		switch {
		case len(used) > 0 && used[0].Start == next:
			next += used[0].Size
			used = used[1:]
		case len(free) > 0 && free[0].Start == next:
			next += free[0].Size
			free = free[1:]
		default:
			return false
		}
	}
	return len(used) == 0 && len(free) == 0
}

// hasMates: are there two blocks in a list that are mates?
func hasMates(list []api.Block) bool {
	return slices.ContainsFunc(list, func(one api.Block) bool { return holds(list, mateOf(one)) })
}

// with puts blocks at their places in a list, in new memory.
func with(list []api.Block, blocks ...api.Block) []api.Block {
	list = fresh(list)
	for _, one := range blocks {
		list = slices.Insert(list, placeOf(list, one.Start), one)
	}
	return list
}

// without takes a block out of a list, in new memory.
func without(list []api.Block, one api.Block) []api.Block {
	return slices.DeleteFunc(fresh(list), func(other api.Block) bool { return other == one })
}

// joined puts a block into a list, as one with its mate as long as that is there, in new memory.
func joined(list []api.Block, one api.Block) []api.Block {
	for holds(list, mateOf(one)) {
		list = without(list, mateOf(one))
		one = both(one)
	}
	return with(list, one)
}

// fresh copies a list into memory of its own.
func fresh(list []api.Block) []api.Block {
	return append([]api.Block{}, list...)
}
