package dict_test

import (
	"fmt"
	"maps"
	"math/rand"
	"slices"
	"testing"

	"taskmill/api"
	"taskmill/dict"
)

// The chapter's example.
func TestExamples(t *testing.T) {
	d := putOf(t, dict.New(), 0, 1, 2, 3, 4)
	same(t, "0 to 4", d, table(1, []int{0, 1}, bucket(1, 0, 2, 4), bucket(1, 1, 3)))
}

// tableOfKeys is how keys that were all put part a table: more than 4 that are the same in their last bits are parted by the next one, up to 12 bits.
func tableOfKeys(keys []int) api.Dict {
	tree := &node{}
	for _, key := range keys {
		tree.items = append(tree.items, items(key)...)
	}
	slices.SortFunc(tree.items, byKey)
	for again := true; again; {
		again = false
		for _, leaf := range tree.leaves() {
			if len(leaf.items) > mostItems && leaf.depth < mostDepth {
				leaf.part()
				again = true
			}
		}
	}
	return tree.table()
}

// anyKeys are so many, no two the same, of one of several kinds.
func anyKeys(r *rand.Rand, many int) []int {
	kind, base := r.Intn(5), int(r.Uint64())
	isThere := map[int]bool{}
	for len(isThere) < many {
		switch kind {
		case 0:
			isThere[r.Intn(3*many)-many] = true
		case 1:
			isThere[int(r.Uint64())] = true
		case 2: // the same in many bits
			isThere[base+r.Intn(2*many)<<r.Intn(14)] = true
		case 3:
			isThere[base+len(isThere)] = true
		case 4:
			isThere[anyNumber(r)+r.Intn(many)<<r.Intn(10)] = true
		}
	}
	return slices.Sorted(maps.Keys(isThere))
}

// What follows: the same keys, put in any order, leave the same table: in all orders.
func TestAllOrders(t *testing.T) {
	for _, keys := range [][]int{
		{0, 1, 2, 3, 4},
		{0, 2, 4, 6, 8, 10},
		{-3, -2, -1, 0, 1, 2},
		{0, 4, 8, 12, 16, 1},
		{3, 7, 11, 15, 19, 23},
		{1, 9, 17, 25, 33, 2, 3},
	} {
		want := tableOfKeys(keys)
		for _, order := range permutations(keys) {
			if got := putOf(t, dict.New(), order...); !alike(got, want) {
				same(t, fmt.Sprint("put by ", order), got, want)
			}
		}
	}
}

// What follows: the same of many keys, in any orders, whatever values they had on the way.
func TestAnyOrders(t *testing.T) {
	r := rand.New(rand.NewSource(471))
	deepest := 0
	for range 250 {
		keys := anyKeys(r, 1+r.Intn(60))
		want := tableOfKeys(keys)
		if want.Depth == mostDepth {
			deepest++
		}
		for range 3 {
			r.Shuffle(len(keys), func(i, k int) { keys[i], keys[k] = keys[k], keys[i] })
			d := dict.New()
			for at, key := range keys {
				d, _, _ = dict.Put(d, key, r.Int())
				if r.Intn(3) == 0 {
					d, _, _ = dict.Put(d, keys[r.Intn(at+1)], r.Int())
				}
			}
			for _, key := range keys {
				d, _, _ = dict.Put(d, key, valueOf(key))
			}
			if !alike(d, want) {
				same(t, fmt.Sprint("put by ", keys), d, want)
			}
		}
	}
	if deepest < 10 {
		t.Errorf("only %d were deep", deepest)
	}
}

// What follows: the same of very many keys.
func TestVeryManyKeys(t *testing.T) {
	r := rand.New(rand.NewSource(472))
	for _, keys := range [][]int{anyKeys(r, 2500), deepKeys(600)} {
		want := tableOfKeys(keys)
		for range 2 {
			r.Shuffle(len(keys), func(i, k int) { keys[i], keys[k] = keys[k], keys[i] })
			same(t, "any order", alike(putOf(t, dict.New(), keys...), want), true)
		}
	}
}

// deepKeys are so many that are the same in their last 12 bits.
func deepKeys(many int) []int {
	var keys []int
	for n := range many {
		keys = append(keys, 1365+(n-many/2)<<mostDepth)
	}
	return keys
}

// What follows: a table has what was put, last, and not dropped; and nothing is wrong with it.
func TestWhatWasPut(t *testing.T) {
	r := rand.New(rand.NewSource(473))
	puts, anew, drops, nones := 0, 0, 0, 0
	for range 150 {
		pool := anyKeys(r, 5+r.Intn(60))
		d, want := dict.New(), map[int]int{}
		for range 100 {
			key, value := pool[r.Intn(len(pool))], r.Intn(5)-2
			_, there := want[key]
			var was bool
			var f api.Fault
			if r.Intn(3) > 0 {
				d, was, f = dict.Put(d, key, value)
				want[key] = value
				puts++
				if there {
					anew++
				}
			} else {
				d, was, f = dict.Drop(d, key)
				delete(want, key)
				drops++
				if !there {
					nones++
				}
			}
			if was != there || f != none || dict.Check(d) != none {
				t.Fatalf("%d: %v, where %v is wanted; %v, %v", key, was, there, f, dict.Check(d))
			}
			askGet(t, "last", d, key, want[key], slices.Contains(slices.Collect(maps.Keys(want)), key), none)
		}
		askHas(t, d, want, pool)
	}
	if puts-anew < 2000 || anew < 1000 || drops-nones < 1000 || nones < 500 {
		t.Errorf("%d were put, %d anew, %d dropped, and %d were not there", puts, anew, drops, nones)
	}
}

// askHas asks whether a table has what it should, and nothing else.
func askHas(t *testing.T, d api.Dict, want map[int]int, pool []int) {
	t.Helper()
	for _, key := range pool {
		value, there := want[key]
		askGet(t, "in the end", d, key, value, there, none)
	}
	var list []api.Item
	for _, key := range slices.Sorted(maps.Keys(want)) {
		list = append(list, api.Item{Key: key, Value: want[key]})
	}
	askAll(t, "in the end", d, list, none)
}

// What follows: keys that were dropped still tell how the table is parted; put again, they are where they were.
func TestDroppedAndPutAgain(t *testing.T) {
	r := rand.New(rand.NewSource(474))
	for range 150 {
		keys := anyKeys(r, 1+r.Intn(60))
		d := putOf(t, dict.New(), keys...)
		r.Shuffle(len(keys), func(i, k int) { keys[i], keys[k] = keys[k], keys[i] })
		some := keys[:r.Intn(len(keys)+1)]
		less := dropOf(t, d, some...)
		same(t, "places", told(less.Depth, less.Places), told(d.Depth, d.Places))
		for number, one := range less.Buckets {
			all := d.Buckets[number]
			left := slices.DeleteFunc(slices.Clone(all.Items), func(item api.Item) bool { return slices.Contains(some, item.Key) })
			same(t, "bucket", one, api.Bucket{Depth: all.Depth, Items: left})
		}
		same(t, "check", dict.Check(less), none)
		r.Shuffle(len(some), func(i, k int) { some[i], some[k] = some[k], some[i] })
		if again := putOf(t, less, some...); !alike(again, d) {
			same(t, "put again", again, d)
		}
	}
}

// What follows: a put key that is dropped leaves the table as it was, if nothing was split.
func TestPutAndDropped(t *testing.T) {
	r := rand.New(rand.NewSource(475))
	asked := 0
	for range 2000 {
		d := anyTable(r)
		key := anyKey(r, d)
		then, was, f := dict.Put(d, key, 1)
		if was || f != none || len(then.Buckets) > len(d.Buckets) {
			continue
		}
		asked++
		askDrop(t, "put and dropped", then, key, d, true, none)
	}
	if asked < 300 {
		t.Errorf("only %d", asked)
	}
}

// What is answered is a table of which nothing is wrong, and which is gone on with.
func TestTablesThen(t *testing.T) {
	r := rand.New(rand.NewSource(476))
	for range 600 {
		d := anyTable(r)
		for range 8 {
			key := anyKey(r, d)
			then, _, f := dict.Put(d, key, 1)
			if r.Intn(3) == 0 {
				then, _, f = dict.Drop(d, key)
			}
			if c := dict.Check(then); f != none || c != none {
				t.Fatalf("%d of %.500s then: %v, %v", key, fmt.Sprint(d), f, c)
			}
			d = then
		}
	}
}
