package dict_test

import (
	"slices"

	"taskmill/api"
)

// What stands here tells once more what the chapter's words say: of a table as a tree, whose leaves are buckets, and whose other nodes have two halves, that of keys with a 0 in the bit that is asked there, and that of those with a 1.

type node struct {
	depth  int
	halves []*node // two, or none: it is a leaf
	items  []api.Item
}

// powerOf: 2 to the power of bits.
func powerOf(bits int) int {
	power := 1
	for range bits {
		power *= 2
	}
	return power
}

// bit tells which bit a number has somewhere: 0 or 1.
func bit(number, at int) int {
	left := uint64(number)
	for range at {
		left /= 2
	}
	return int(left % 2)
}

// areSame: are two numbers the same in their last bits?
func areSame(one, other, bits int) bool {
	for at := range bits {
		if bit(one, at) != bit(other, at) {
			return false
		}
	}
	return true
}

// checkPlacesByTheWords tells what of Check is said of all places.
func checkPlacesByTheWords(d api.Dict) api.Fault {
	isTold := map[int]bool{}
	least := 0
	for at, number := range d.Places {
		if number < 0 || number > len(d.Buckets)-1 {
			return fault(api.ErrForm, at)
		}
		for isTold[least] {
			least++
		}
		if number > least {
			return fault(api.ErrForm, at)
		}
		isTold[number] = true
	}
	for number := range d.Buckets {
		if !isTold[number] {
			return fault(api.ErrSize, -1)
		}
	}
	return none
}

// isKindByTheWords: has a bucket a Depth that it may have, and just those places?
func isKindByTheWords(d api.Dict, number int) bool {
	depth := d.Buckets[number].Depth
	if depth < 0 || depth > d.Depth {
		return false
	}
	first := slices.Index(d.Places, number)
	for place, tells := range d.Places {
		if areSame(place, first, depth) != (tells == number) {
			return false
		}
	}
	return true
}

// checkBucketByTheWords answers the code of what is wrong with a bucket.
func checkBucketByTheWords(d api.Dict, number int) int {
	one := d.Buckets[number]
	if !isKindByTheWords(d, number) {
		return api.ErrKind
	}
	if one.Depth < mostDepth && len(one.Items) > mostItems {
		return api.ErrMany
	}
	place := slices.Index(d.Places, number)
	for i := range one.Items {
		if !areSame(one.Items[i].Key, place, one.Depth) {
			return api.ErrState
		}
		if i != 0 && !(one.Items[i].Key > one.Items[i-1].Key) {
			return api.ErrTwice
		}
	}
	if len(one.Items) > api.MaxList {
		return api.ErrMuch
	}
	return api.OK
}

// checkByTheWords answers what Check says.
func checkByTheWords(d api.Dict) api.Fault {
	if !(0 <= d.Depth && d.Depth <= mostDepth) {
		return fault(api.ErrRange, -1)
	}
	if powerOf(d.Depth) != len(d.Places) {
		return fault(api.ErrSize, -1)
	}
	if f := checkPlacesByTheWords(d); f != none {
		return f
	}
	deepest := -1
	for number, one := range d.Buckets {
		if code := checkBucketByTheWords(d, number); code != api.OK {
			return fault(code, number)
		}
		deepest = max(deepest, one.Depth)
	}
	if d.Depth > 0 && deepest < d.Depth {
		return fault(api.ErrFalse, -1)
	}
	return none
}

// treeOf answers the tree of a table of which nothing is wrong.
func treeOf(d api.Dict) *node {
	tree := &node{}
	for number, one := range d.Buckets {
		place := slices.Index(d.Places, number)
		leaf := tree
		for leaf.depth < one.Depth {
			if leaf.halves == nil {
				leaf.part()
			}
			leaf = leaf.halves[bit(place, leaf.depth)]
		}
		leaf.items = slices.Clone(one.Items)
	}
	return tree
}

// part makes a node of a leaf.
func (n *node) part() {
	n.halves = []*node{{depth: n.depth + 1}, {depth: n.depth + 1}}
	for _, item := range n.items {
		half := n.halves[bit(item.Key, n.depth)]
		half.items = append(half.items, item)
	}
	n.items = nil
}

// leafOf answers the leaf that a number's bits lead to.
func (n *node) leafOf(number int) *node {
	for n.halves != nil {
		n = n.halves[bit(number, n.depth)]
	}
	return n
}

func (n *node) leaves() []*node {
	if n.halves == nil {
		return []*node{n}
	}
	return append(n.halves[0].leaves(), n.halves[1].leaves()...)
}

// table is what a tree tells: it is as deep as its deepest leaf.
func (n *node) table() api.Dict {
	d := api.Dict{}
	for _, leaf := range n.leaves() {
		d.Depth = max(d.Depth, leaf.depth)
	}
	number := map[*node]int{}
	for place := range powerOf(d.Depth) {
		leaf := n.leafOf(place)
		if _, there := number[leaf]; !there {
			number[leaf] = len(d.Buckets)
			d.Buckets = append(d.Buckets, api.Bucket{Depth: leaf.depth, Items: slices.Clone(leaf.items)})
		}
		d.Places = append(d.Places, number[leaf])
	}
	return d
}

// itemOf answers where in a leaf a key stands; -1: nowhere.
func (n *node) itemOf(key int) int {
	return slices.IndexFunc(n.items, func(one api.Item) bool { return one.Key == key })
}

// getByTheWords answers what Get says.
func getByTheWords(d api.Dict, key int) (int, bool, api.Fault) {
	if f := checkByTheWords(d); f != none {
		return 0, false, f
	}
	leaf := treeOf(d).leafOf(key)
	if at := leaf.itemOf(key); at >= 0 {
		return leaf.items[at].Value, true, none
	}
	return 0, false, none
}

// putByTheWords answers what Put says.
func putByTheWords(d api.Dict, key, value int) (api.Dict, bool, api.Fault) {
	if f := checkByTheWords(d); f != none {
		return api.Dict{}, false, f
	}
	tree := treeOf(d)
	leaf := tree.leafOf(key)
	if at := leaf.itemOf(key); at >= 0 {
		leaf.items[at].Value = value
		return tree.table(), true, none
	}
	if len(leaf.items) == api.MaxList {
		return api.Dict{}, false, fault(api.ErrMuch, 0)
	}
	leaf.items = append(leaf.items, api.Item{Key: key, Value: value})
	slices.SortFunc(leaf.items, byKey)
	for leaf.depth < mostDepth && len(leaf.items) > mostItems {
		leaf.part()
		leaf = leaf.leafOf(key)
	}
	return tree.table(), false, none
}

// dropByTheWords answers what Drop says.
func dropByTheWords(d api.Dict, key int) (api.Dict, bool, api.Fault) {
	if f := checkByTheWords(d); f != none {
		return api.Dict{}, false, f
	}
	tree := treeOf(d)
	leaf := tree.leafOf(key)
	at := leaf.itemOf(key)
	if at >= 0 {
		leaf.items = slices.Delete(leaf.items, at, at+1)
	}
	return tree.table(), at >= 0, none
}

// allByTheWords answers what All says.
func allByTheWords(d api.Dict) ([]api.Item, api.Fault) {
	if f := checkByTheWords(d); f != none {
		return nil, f
	}
	var list []api.Item
	for _, leaf := range treeOf(d).leaves() {
		list = append(list, leaf.items...)
	}
	slices.SortFunc(list, byKey)
	return list, none
}

func byKey(one, other api.Item) int {
	if one.Key < other.Key {
		return -1
	}
	if one.Key > other.Key {
		return 1
	}
	return 0
}
