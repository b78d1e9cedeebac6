package buddy_test

import (
	"slices"

	"taskmill/api"
)

// What stands here tells once more what the chapter's words say: of a space as a tree, whose leaves are blocks, and whose other nodes have two halves.

// node is all that stands within a block that might be.
type node struct {
	block  api.Block
	free   bool
	halves []*node // two, or none: it is a leaf
}

func (n *node) isFreeLeaf() bool { return n.free && len(n.halves) == 0 }

// unitsByTheWords: 2 to the power of Bits.
func unitsByTheWords(bits int) int {
	units := 1
	for range bits {
		units *= 2
	}
	return units
}

// isPower: is a Size 1, or 2, or 4, and so on?
func isPower(size int) bool {
	for power := 1; power > 0; power *= 2 {
		if size == power {
			return true
		}
	}
	return false
}

// isOfSpace: may a block stand in a space?
func isOfSpace(one api.Block, bits int) bool {
	units := unitsByTheWords(bits)
	if !isPower(one.Size) || one.Size > units || one.Start < 0 || one.Start >= units {
		return false
	}
	return one.Start/one.Size*one.Size == one.Start && one.Start+one.Size <= units
}

// checkListByTheWords answers the code of what is wrong with a list.
func checkListByTheWords(list []api.Block, bits int) int {
	for i := range list {
		if !isOfSpace(list[i], bits) {
			return api.ErrRange
		}
		if i != 0 && !(list[i].Start > list[i-1].Start) {
			return api.ErrForm
		}
	}
	return api.OK
}

// checkByTheWords answers what Check says, and the space as a tree, if nothing is wrong.
func checkByTheWords(s api.Space) (*node, api.Fault) {
	if s.Bits < 0 || s.Bits > mostBits {
		return nil, fault(api.ErrMany, 0)
	}
	if len(s.Used)+len(s.Free) > api.MaxList {
		return nil, fault(api.ErrMany, 0)
	}
	if code := checkListByTheWords(s.Used, s.Bits); code != api.OK {
		return nil, fault(code, 0)
	}
	if code := checkListByTheWords(s.Free, s.Bits); code != api.OK {
		return nil, fault(code, 1)
	}
	isFree := map[api.Block]bool{}
	for _, one := range s.Used {
		isFree[one] = false
	}
	for _, one := range s.Free {
		isFree[one] = true
	}
	tree := treeOf(api.Block{Size: unitsByTheWords(s.Bits)}, isFree)
	if tree == nil || len(tree.leaves()) != len(s.Used)+len(s.Free) {
		return nil, fault(api.ErrSize, 0)
	}
	if tree.hasFreeMates() {
		return nil, fault(api.ErrState, 0)
	}
	return tree, none
}

// treeOf answers the tree of a block that might be; nil: some unit of it is in no block.
func treeOf(block api.Block, isFree map[api.Block]bool) *node {
	if free, there := isFree[block]; there {
		return &node{block: block, free: free}
	}
	if block.Size == 1 {
		return nil
	}
	n := &node{block: block}
	for _, half := range halvesOf(block) {
		of := treeOf(half, isFree)
		if of == nil {
			return nil
		}
		n.halves = append(n.halves, of)
	}
	return n
}

func halvesOf(block api.Block) []api.Block {
	half := block.Size / 2
	return []api.Block{{Start: block.Start, Size: half}, {Start: block.Start + half, Size: half}}
}

// leaves are in the order of their starts.
func (n *node) leaves() []*node {
	if len(n.halves) == 0 {
		return []*node{n}
	}
	return append(n.halves[0].leaves(), n.halves[1].leaves()...)
}

func (n *node) hasFreeMates() bool {
	if len(n.halves) == 0 {
		return false
	}
	return n.halves[0].isFreeLeaf() && n.halves[1].isFreeLeaf() || n.halves[0].hasFreeMates() || n.halves[1].hasFreeMates()
}

// space is what the leaves of a tree are.
func (n *node) space(bits int) api.Space {
	s := api.Space{Bits: bits}
	for _, leaf := range n.leaves() {
		if leaf.free {
			s.Free = append(s.Free, leaf.block)
		} else {
			s.Used = append(s.Used, leaf.block)
		}
	}
	return s
}

// takeByTheWords answers what Take says.
func takeByTheWords(s api.Space, n int) (api.Space, int, api.Fault) {
	tree, f := checkByTheWords(s)
	if f != none {
		return api.Space{}, 0, f
	}
	if n <= 0 || n > mostUnits {
		return api.Space{}, 0, fault(api.ErrRange, -1)
	}
	fit := slices.DeleteFunc(tree.leaves(), func(leaf *node) bool { return !leaf.free || leaf.block.Size < n })
	if len(fit) == 0 {
		return api.Space{}, 0, fault(api.ErrNone, 0)
	}
	slices.SortFunc(fit, func(one, other *node) int {
		if one.block.Size != other.block.Size {
			return one.block.Size - other.block.Size
		}
		return one.block.Start - other.block.Start
	})
	leaf := fit[0]
	for leaf.block.Size > 1 && leaf.block.Size/2 >= n {
		leaf.free = false
		for _, half := range halvesOf(leaf.block) {
			leaf.halves = append(leaf.halves, &node{block: half, free: true})
		}
		leaf = leaf.halves[0]
	}
	leaf.free = false
	if len(tree.leaves()) > api.MaxList {
		return api.Space{}, 0, fault(api.ErrMuch, 0)
	}
	return tree.space(s.Bits), leaf.block.Start, none
}

// giveByTheWords answers what Give says.
func giveByTheWords(s api.Space, start int) (api.Space, api.Fault) {
	tree, f := checkByTheWords(s)
	if f != none {
		return api.Space{}, f
	}
	for _, leaf := range tree.leaves() {
		if !leaf.free && leaf.block.Start == start {
			leaf.free = true
			tree.join()
			return tree.space(s.Bits), none
		}
	}
	return api.Space{}, fault(api.ErrNone, 0)
}

// join makes a leaf of each two halves that are free leaves, from below.
func (n *node) join() {
	for _, half := range n.halves {
		half.join()
	}
	if len(n.halves) == 2 && n.halves[0].isFreeLeaf() && n.halves[1].isFreeLeaf() {
		n.free, n.halves = true, nil
	}
}
