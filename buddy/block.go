package buddy

import "taskmill/api"

// unitsOf answers how many units a space has.
func unitsOf(bits int) int {
	return 1 << bits
}

// fits: may a block stand in a space of so many units?
func fits(one api.Block, units int) bool {
	if one.Size < 1 || one.Size&(one.Size-1) != 0 {
		return false
	}
	// Where the block ends is not reckoned, as that could wrap.
	return one.Start >= 0 && one.Start%one.Size == 0 && one.Start <= units-one.Size
}

// mateOf answers the mate of a block. That of a block which is the whole space would start behind it, so that no list holds it.
func mateOf(one api.Block) api.Block {
	return api.Block{Start: one.Start ^ one.Size, Size: one.Size}
}

// both answers the block that a block and its mate are together.
func both(one api.Block) api.Block {
	return api.Block{Start: one.Start &^ one.Size, Size: 2 * one.Size}
}

// halved answers what is left of a block when it is halved as long as n units have room, and the second halves.
func halved(one api.Block, n int) (api.Block, []api.Block) {
	var seconds []api.Block
	for one.Size/2 >= n {
		one.Size /= 2
		seconds = append(seconds, mateOf(one))
	}
	return one, seconds
}
