package dict_test

import (
	"math/rand"
	"slices"

	"taskmill/api"
)

// partSome parts leaves of a tree that are not as deep as may be, any of them.
func partSome(r *rand.Rand, tree *node, times, depth int) {
	for range times {
		leaf := tree.leafOf(r.Int())
		if leaf.depth < depth {
			leaf.part()
		}
	}
}

// partDown parts one leaf after the other on the way that a number's bits lead.
func partDown(tree *node, number, depth int) {
	for leaf := tree.leafOf(number); leaf.depth < depth; leaf = leaf.leafOf(number) {
		leaf.part()
	}
}

// fill puts items into leaves that have room for them; some are of the farthest keys, some have values of 0.
func fill(r *rand.Rand, tree *node, many int) {
	for range many {
		key := anyNumber(r)
		leaf := tree.leafOf(key)
		if leaf.itemOf(key) < 0 && (len(leaf.items) < mostItems || leaf.depth == mostDepth) {
			leaf.items = append(leaf.items, api.Item{Key: key, Value: r.Intn(3) * r.Int()})
			slices.SortFunc(leaf.items, byKey)
		}
	}
}

func anyNumber(r *rand.Rand) int {
	switch r.Intn(4) {
	case 0:
		return far()[r.Intn(len(far()))]
	case 1:
		return int(r.Uint64())
	}
	return r.Intn(40) - 20
}

// anyTable is a right one.
func anyTable(r *rand.Rand) api.Dict {
	tree := &node{}
	partSome(r, tree, r.Intn(10), r.Intn(6))
	down := anyNumber(r)
	if r.Intn(8) == 0 {
		partDown(tree, down, 7+r.Intn(mostDepth-6))
	}
	fill(r, tree, r.Intn(40))
	leaf := tree.leafOf(down)
	for n := range r.Intn(12) { // one leaf is often full
		if leaf.itemOf(down+n<<mostDepth) < 0 && (len(leaf.items) < mostItems || leaf.depth == mostDepth) {
			leaf.items = append(leaf.items, api.Item{Key: down + n<<mostDepth, Value: n})
			slices.SortFunc(leaf.items, byKey)
		}
	}
	return tree.table()
}

// anyKey is often one that is there, or is the same as it in all bits but one, or comes to one bucket with it.
func anyKey(r *rand.Rand, d api.Dict) int {
	keys := keysOf(d)
	if len(keys) == 0 || r.Intn(4) == 0 {
		return anyNumber(r)
	}
	key := keys[r.Intn(len(keys))]
	switch r.Intn(5) {
	case 0:
		return key ^ 1<<r.Intn(14)
	case 1:
		return key ^ 1<<r.Intn(64)
	case 2:
		return key + (r.Intn(9)-4)<<mostDepth
	}
	return key
}

// spoiled is a table in which something, or nothing, is wrong.
func spoiled(r *rand.Rand, d api.Dict) api.Dict {
	d = copied(d)
	number := func() int { return r.Intn(len(d.Buckets)+3) - 1 }
	switch r.Intn(8) {
	case 0:
		d.Depth += r.Intn(3) - 1
	case 1:
		d.Depth = far()[r.Intn(len(far()))]
	case 2:
		d.Places = append(d.Places[:r.Intn(len(d.Places)+1)], number())
	case 3:
		d.Places[r.Intn(len(d.Places))] = number()
	case 4:
		at, to := r.Intn(len(d.Places)), r.Intn(len(d.Places))
		d.Places[at], d.Places[to] = d.Places[to], d.Places[at]
	case 5:
		d.Buckets = append(d.Buckets, bucket(d.Depth))
	case 6: // as deep as a table may be that has no bucket of its Depth
		if d.Depth < mostDepth {
			d.Depth++
			d.Places = slices.Concat(d.Places, d.Places)
		}
	case 7:
		for range 1 + r.Intn(3) {
			spoilBucket(r, &d.Buckets[r.Intn(len(d.Buckets))])
		}
	}
	return d
}

func spoilBucket(r *rand.Rand, one *api.Bucket) {
	at := 0
	if len(one.Items) > 0 {
		at = r.Intn(len(one.Items))
	}
	switch r.Intn(5) {
	case 0:
		one.Depth += r.Intn(3) - 1
	case 1:
		one.Items = append(one.Items, api.Item{Key: anyNumber(r)})
	case 2:
		if len(one.Items) > 0 {
			one.Items[at].Key ^= 1 << r.Intn(14)
		}
	case 3:
		slices.Reverse(one.Items)
	case 4: // they are the same in many bits, and rise
		for len(one.Items) > 0 && len(one.Items) < 3+r.Intn(4) {
			one.Items = append(one.Items, api.Item{Key: one.Items[len(one.Items)-1].Key + 1<<13})
		}
	}
}

// allTrees are all that are not deeper.
func allTrees(depth, most int) []*node {
	all := []*node{{depth: depth}}
	if depth == most {
		return all
	}
	for _, zero := range allTrees(depth+1, most) {
		for _, one := range allTrees(depth+1, most) {
			all = append(all, &node{depth: depth, halves: []*node{zero, one}})
		}
	}
	return all
}

// allLists are all lists of at most so many of some things.
func allLists[E any](most int, of []E) [][]E {
	all := [][]E{nil}
	for from := 0; most > 0; most-- {
		to := len(all)
		for _, list := range all[from:to] {
			for _, one := range of {
				all = append(all, append(slices.Clone(list), one))
			}
		}
		from = to
	}
	return all
}

// permutations are all orders of some numbers.
func permutations(list []int) [][]int {
	if len(list) == 0 {
		return [][]int{nil}
	}
	var all [][]int
	for at, first := range list {
		rest := slices.Delete(slices.Clone(list), at, at+1)
		for _, one := range permutations(rest) {
			all = append(all, append([]int{first}, one...))
		}
	}
	return all
}
