package buddy_test

import (
	"math/rand"
	"slices"

	"taskmill/api"
)

// anyTree is parted until it has so many leaves, or until all are of one unit. The more uneven, the more often what was parted last is parted again.
func anyTree(r *rand.Rand, bits, many int, uneven bool) *node {
	tree := &node{block: api.Block{Size: unitsByTheWords(bits)}}
	large := []*node{tree}
	for leaves := 1; leaves < many; leaves++ {
		large = slices.DeleteFunc(large, func(leaf *node) bool { return leaf.block.Size == 1 })
		if len(large) == 0 {
			break
		}
		at := r.Intn(len(large))
		if uneven && r.Intn(3) > 0 {
			at = len(large) - 1
		}
		leaf := large[at]
		large = slices.Delete(large, at, at+1)
		for _, half := range halvesOf(leaf.block) {
			leaf.halves = append(leaf.halves, &node{block: half})
		}
		large = append(large, leaf.halves...)
		if r.Intn(2) == 0 {
			last := len(large) - 1
			large[last], large[last-1] = large[last-1], large[last]
		}
	}
	return tree
}

// useSome has one leaf in so many be used, and one of each two mates.
func useSome(r *rand.Rand, n *node, oneIn int) {
	if len(n.halves) == 0 {
		n.free = r.Intn(oneIn) > 0
		return
	}
	for _, half := range n.halves {
		useSome(r, half, oneIn)
	}
	if n.halves[0].isFreeLeaf() && n.halves[1].isFreeLeaf() {
		n.halves[r.Intn(2)].free = false
	}
}

// anySpace is a right one of at most so many blocks.
func anySpace(r *rand.Rand, bits, many int) api.Space {
	tree := anyTree(r, bits, many, r.Intn(2) == 0)
	useSome(r, tree, 1+r.Intn(6))
	return tree.space(bits)
}

// smallSpace is a right one of which no limit is near, but that of its units.
func smallSpace(r *rand.Rand) api.Space {
	if r.Intn(4) == 0 {
		return anySpace(r, r.Intn(mostBits+1), 1+r.Intn(20))
	}
	bits := r.Intn(7)
	return anySpace(r, bits, 1+r.Intn(12))
}

// allSpaces are all right ones of so many units.
func allSpaces(bits int) []api.Space {
	var list []api.Space
	for _, tree := range allTrees(api.Block{Size: unitsByTheWords(bits)}) {
		list = append(list, tree.space(bits))
	}
	return list
}

// allTrees are all within a block, but those where two mates are free.
func allTrees(block api.Block) []*node {
	all := []*node{{block: block}, {block: block, free: true}}
	if block.Size == 1 {
		return all
	}
	halves := halvesOf(block)
	second := allTrees(halves[1])
	for _, one := range allTrees(halves[0]) {
		for _, other := range second {
			if !one.isFreeLeaf() || !other.isFreeLeaf() {
				all = append(all, &node{block: block, halves: []*node{one, other}})
			}
		}
	}
	return all
}

// allLists are all lists of at most so many of some blocks.
func allLists(most int, of []api.Block) [][]api.Block {
	all := [][]api.Block{nil}
	for from := 0; most > 0; most-- {
		to := len(all)
		for _, list := range all[from:to] {
			for _, one := range of {
				all = append(all, append(slices.Clone(list), one))
			}
		}
		from = to
	}
	return all
}

// anyUnits are for how many units a block may be asked.
func anyUnits(r *rand.Rand, s api.Space) int {
	size := 1
	if list := slices.Concat(s.Free, s.Used); len(list) > 0 && r.Intn(4) > 0 {
		size = list[r.Intn(len(list))].Size
	}
	switch r.Intn(4) {
	case 0:
		return size
	case 1:
		return size + r.Intn(3) - 1
	case 2:
		return size>>r.Intn(3) + r.Intn(3) - 1
	}
	return 1 + r.Intn(unitsByTheWords(max(0, min(s.Bits, mostBits))))
}

// anyStart is often one of a used block.
func anyStart(r *rand.Rand, s api.Space) int {
	list := s.Used
	if len(list) == 0 || r.Intn(5) == 0 {
		list = s.Free
	}
	if len(list) == 0 {
		return r.Intn(5) - 2
	}
	start := list[r.Intn(len(list))].Start
	if r.Intn(6) == 0 {
		start += r.Intn(3) - 1
	}
	return start
}
