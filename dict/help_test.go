package dict_test

import (
	"fmt"
	"math"
	"slices"
	"testing"

	"taskmill/api"
	"taskmill/dict"
)

// What the chapter names, and package api does not.
const (
	mostDepth = 12
	mostItems = 4 // of a bucket that is not as deep as may be
)

func fault(code, at int) api.Fault { return api.Fault{Code: code, At: at} }

var none = api.Fault{}

// valueOf is the value of a key, where a test asks for no other one.
func valueOf(key int) int { return 3*key + 1 }

func items(keys ...int) []api.Item {
	var list []api.Item
	for _, key := range keys {
		list = append(list, api.Item{Key: key, Value: valueOf(key)})
	}
	return list
}

// bucket is written as its Depth, and then its keys.
func bucket(depth int, keys ...int) api.Bucket {
	return api.Bucket{Depth: depth, Items: items(keys...)}
}

// table is written as its Depth, its places, and then its buckets.
func table(depth int, places []int, buckets ...api.Bucket) api.Dict {
	return api.Dict{Depth: depth, Places: places, Buckets: buckets}
}

// flat is a table of one bucket.
func flat(keys ...int) api.Dict { return table(0, []int{0}, bucket(0, keys...)) }

// stem is a table of one bucket at each Depth from 1 on, and of two at the last: bucket 0 is as deep as the table, its keys end with as many bits of 0.
func stem(depth int) api.Dict {
	if depth == 0 {
		return flat()
	}
	d := table(depth, make([]int, 1<<depth), bucket(depth))
	for place := 1; place < 1<<depth; place++ {
		zeros := 0
		for place>>zeros%2 == 0 {
			zeros++
		}
		d.Places[place] = zeros + 1
	}
	for bits := 1; bits <= depth; bits++ {
		d.Buckets = append(d.Buckets, bucket(bits))
	}
	return d
}

// deep is a stem of Depth 12, whose bucket 0 has so many items: 0, 4096, and so on.
func deep(many int) api.Dict {
	d := stem(mostDepth)
	d.Buckets[0].Items = nil
	for n := range many {
		d.Buckets[0].Items = append(d.Buckets[0].Items, items(n<<mostDepth)...)
	}
	return d
}

// leafy is a table each of whose buckets has its Depth, and one place alone.
func leafy(depth int) api.Dict {
	d := api.Dict{Depth: depth}
	for place := range 1 << depth {
		d.Places = append(d.Places, place)
		d.Buckets = append(d.Buckets, bucket(depth, place))
	}
	return d
}

// far are keys, values, Depths and places far and near, of which many are limits, or just beyond.
func far() []int {
	list := []int{math.MinInt, math.MinInt + 1, -4097, -4096, -4095, -5, -4, -3, -2, -1, 0, 1, 2, 3, 4, 5, 6, 7, 8, 11, 12, 13, 14, 62, 63, 64, 65, 4095, 4096, 4097, 5000, 5001}
	for _, n := range []int{1 << 31, 1 << 32, 1 << 62} {
		list = append(list, -n, n-1, n, n+1)
	}
	return append(list, math.MaxInt-1, math.MaxInt)
}

// copied is a table of the same, in memory of its own.
func copied(d api.Dict) api.Dict {
	d.Places, d.Buckets = slices.Clone(d.Places), slices.Clone(d.Buckets)
	for i := range d.Buckets {
		d.Buckets[i].Items = slices.Clone(d.Buckets[i].Items)
	}
	return d
}

// with is a table in which something is done to a copy.
func with(d api.Dict, do func(d *api.Dict)) api.Dict {
	d = copied(d)
	do(&d)
	return d
}

// alike: are two tables the same?
func alike(one, other api.Dict) bool {
	return one.Depth == other.Depth && slices.Equal(one.Places, other.Places) && slices.EqualFunc(one.Buckets, other.Buckets, func(b, c api.Bucket) bool {
		return b.Depth == c.Depth && slices.Equal(b.Items, c.Items)
	})
}

// keysOf are some of the keys of a table, not more than a few of each bucket.
func keysOf(d api.Dict) []int {
	var list []int
	for _, one := range d.Buckets[:min(len(d.Buckets), 20)] {
		for _, item := range one.Items[:min(len(one.Items), 5)] {
			list = append(list, item.Key)
		}
	}
	return list
}

// askFault asks all calls: each tells first what Check says, and nothing beside it, whatever else it is given.
func askFault(t *testing.T, what string, d api.Dict, want api.Fault) {
	t.Helper()
	same(t, what+": check", dict.Check(d), want)
	keys := []int{math.MinInt, -1, 0, 1, 4096, math.MaxInt}
	if len(d.Places) < 100 {
		keys = append(far(), keysOf(d)...)
	}
	for _, key := range keys {
		askGet(t, what, d, key, 0, false, want)
		askPut(t, what, d, key, key, api.Dict{}, false, want)
		askDrop(t, what, d, key, api.Dict{}, false, want)
	}
	askAll(t, what, d, nil, want)
}

// askRight asks whether nothing is wrong; the other calls tell nothing of Check's then.
func askRight(t *testing.T, what string, d api.Dict) {
	t.Helper()
	same(t, what+": check", dict.Check(d), none)
	_, _, f := dict.Get(d, 1)
	_, _, g := dict.Put(d, 1, 1)
	_, _, h := dict.Drop(d, 1)
	_, i := dict.All(d)
	same(t, what+": the others", told(f, g, h, i), told(none, none, none, none))
}

func askGet(t *testing.T, what string, d api.Dict, key, value int, there bool, want api.Fault) {
	t.Helper()
	v, is, f := dict.Get(d, key)
	if v == value && is == there && f == want {
		return // most tests are many of these: telling them takes long
	}
	same(t, fmt.Sprintf("%s: get %d of %.300s", what, key, fmt.Sprint(d)), told(v, is, f), told(value, there, want))
}

func askPut(t *testing.T, what string, d api.Dict, key, value int, then api.Dict, there bool, want api.Fault) {
	t.Helper()
	got, is, f := dict.Put(d, key, value)
	if alike(got, then) && is == there && f == want {
		return
	}
	same(t, fmt.Sprintf("%s: put %d, %d to %.300s", what, key, value, fmt.Sprint(d)), told(is, f, got), told(there, want, then))
}

func askDrop(t *testing.T, what string, d api.Dict, key int, then api.Dict, there bool, want api.Fault) {
	t.Helper()
	got, is, f := dict.Drop(d, key)
	if alike(got, then) && is == there && f == want {
		return
	}
	same(t, fmt.Sprintf("%s: drop %d of %.300s", what, key, fmt.Sprint(d)), told(is, f, got), told(there, want, then))
}

func askAll(t *testing.T, what string, d api.Dict, list []api.Item, want api.Fault) {
	t.Helper()
	got, f := dict.All(d)
	if slices.Equal(got, list) && f == want {
		return
	}
	same(t, fmt.Sprintf("%s: all of %.300s", what, fmt.Sprint(d)), told(f, got), told(want, list))
}

// putOf puts keys, with their values, one after the other.
func putOf(t *testing.T, d api.Dict, keys ...int) api.Dict {
	t.Helper()
	for _, key := range keys {
		then, _, f := dict.Put(d, key, valueOf(key))
		if f != none {
			t.Fatalf("put %d to %.300s: %v", key, fmt.Sprint(d), f)
		}
		d = then
	}
	return d
}

// dropOf drops keys that are there, one after the other.
func dropOf(t *testing.T, d api.Dict, keys ...int) api.Dict {
	t.Helper()
	for _, key := range keys {
		then, was, f := dict.Drop(d, key)
		if f != none || !was {
			t.Fatalf("drop %d of %.300s: %v, %v", key, fmt.Sprint(d), was, f)
		}
		d = then
	}
	return d
}

func told(parts ...any) string { return fmt.Sprintln(parts...) }

// same holds two things against each other as they are told: nil and empty lists are the same.
func same(t *testing.T, what string, got, want any) {
	t.Helper()
	if g, w := fmt.Sprint(got), fmt.Sprint(want); g != w {
		t.Errorf("%s:\n got %.1500s\nwant %.1500s", what, g, w)
	}
}
