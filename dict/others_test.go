package dict_test

import (
	"math"
	"slices"
	"testing"

	"taskmill/api"
	"taskmill/dict"
)

// New: Depth 0, one place, one empty bucket.
func TestNew(t *testing.T) {
	d := dict.New()
	same(t, "new", d, api.Dict{Places: []int{0}, Buckets: []api.Bucket{{}}})
	same(t, "check", dict.Check(d), none)
	askAll(t, "new", d, nil, none)
	for _, key := range far() {
		askGet(t, "new", d, key, 0, false, none)
		askDrop(t, "new", d, key, d, false, none)
		askPut(t, "new", d, key, valueOf(key), flat(key), false, none)
	}
}

// Get: a key's value, and whether the key is there.
func TestGet(t *testing.T) {
	for _, d := range []api.Dict{
		flat(), flat(7), flat(-5, 0, 1, 9), flat(math.MinInt, -1, 0, math.MaxInt),
		table(1, []int{0, 1}, bucket(1, math.MinInt, -4, -2), bucket(1, -3, -1, math.MaxInt)),
		table(3, []int{0, 1, 2, 1, 3, 1, 2, 1}, bucket(3, 0, 8), bucket(1, 1, 3, 5, 7), bucket(2, 2, 6), bucket(3, 4, 12)),
		stem(5), leafy(4), deep(20),
	} {
		isThere := map[int]bool{}
		for _, one := range d.Buckets {
			for _, item := range one.Items {
				isThere[item.Key] = true
				askGet(t, "there", d, item.Key, valueOf(item.Key), true, none)
			}
		}
		for key := range isThere {
			for bits := range 64 { // another one in one bit alone
				if other := key ^ 1<<bits; !isThere[other] {
					askGet(t, "one bit", d, other, 0, false, none)
				}
			}
		}
		for _, key := range far() {
			if !isThere[key] {
				askGet(t, "not there", d, key, 0, false, none)
			}
		}
	}
}

// Get tells a value of 0 apart from none, and any other value as it is.
func TestGetValues(t *testing.T) {
	for _, value := range far() {
		d := table(0, []int{0}, api.Bucket{Items: []api.Item{{Key: -1, Value: 5}, {Key: 0, Value: value}, {Key: 3}}})
		askGet(t, "any value", d, 0, value, true, none)
		askGet(t, "a value of 0", d, 3, 0, true, none)
		askGet(t, "not there", d, 2, 0, false, none)
	}
	d := deep(api.MaxList)
	for _, at := range []int{0, 1, 2500, api.MaxList - 2, api.MaxList - 1} {
		askGet(t, "of many", d, at<<mostDepth, valueOf(at<<mostDepth), true, none)
	}
	askGet(t, "ahead of many", d, -4096, 0, false, none)
	askGet(t, "behind many", d, api.MaxList<<mostDepth, 0, false, none)
}

// Drop: the key goes, and nothing else.
func TestDrop(t *testing.T) {
	for _, d := range []api.Dict{
		flat(7), flat(-5, 0, 1, 9), flat(math.MinInt, -1, 0, math.MaxInt),
		table(1, []int{0, 1}, bucket(1, math.MinInt, -4, -2), bucket(1, -3, -1, math.MaxInt)),
		table(3, []int{0, 1, 2, 1, 3, 1, 2, 1}, bucket(3, 0, 8), bucket(1, 1, 3, 5, 7), bucket(2, 2, 6), bucket(3, 4, 12)),
		leafy(4), deep(20), with(flat(1, 2), func(d *api.Dict) { d.Buckets[0].Items[0].Value = 0 }),
	} {
		for number, one := range d.Buckets {
			for at, item := range one.Items {
				then := with(d, func(d *api.Dict) { d.Buckets[number].Items = slices.Delete(d.Buckets[number].Items, at, at+1) })
				askDrop(t, "there", d, item.Key, then, true, none)
				askDrop(t, "there no more", then, item.Key, then, false, none)
			}
		}
	}
}

// Drop of a key that is not there leaves the table as it was.
func TestDropNone(t *testing.T) {
	for _, d := range []api.Dict{
		flat(), flat(9), flat(-50, 10, 20), stem(5), deep(3), deep(30),
		table(1, []int{0, 1}, bucket(1, 0, 32), bucket(1, -9)),
	} {
		for _, key := range []int{math.MinInt, math.MinInt + 1, -51, -49, -7, 8, 16, 19, 21, 31, 33, 4095, 4097, 1 << 50, math.MaxInt} {
			askDrop(t, "not there", d, key, d, false, none)
		}
	}
}

// Drop of the last one of a bucket: the table stays parted as it was, also where no item is left at all.
func TestDropTheLastOne(t *testing.T) {
	askDrop(t, "of the only bucket", flat(5), 5, flat(), true, none)
	two := table(1, []int{0, 1}, bucket(1, 2), bucket(1, 1))
	askDrop(t, "of the first half", two, 2, table(1, []int{0, 1}, bucket(1), bucket(1, 1)), true, none)
	askDrop(t, "of the second half", two, 1, table(1, []int{0, 1}, bucket(1, 2), bucket(1)), true, none)
	for depth := range mostDepth + 1 {
		d := stem(depth)
		var keys []int
		for number := range d.Buckets {
			place := slices.Index(d.Places, number)
			d.Buckets[number].Items = items(place)
			keys = append(keys, place)
		}
		askRight(t, "one in each bucket", d)
		for number, place := range keys {
			then := with(d, func(d *api.Dict) { d.Buckets[number].Items = nil })
			askDrop(t, "one of them", d, place, then, true, none)
		}
		same(t, "all of them", dropOf(t, d, keys...), stem(depth))
	}
	d := putOf(t, dict.New(), 0, 4096, 8192, 12288, 16384, 20480)
	same(t, "more than 4 at Depth 12", dropOf(t, d, 4096, 0, 20480, 8192, 16384, 12288), stem(mostDepth))
}

// Drop makes room: for a key where MaxList are, and for a fifth one.
func TestDropMakesRoom(t *testing.T) {
	full := deep(api.MaxList)
	then, was, f := dict.Drop(full, 4096)
	same(t, "dropped", told(was, f, len(then.Buckets[0].Items)), told(true, none, api.MaxList-1))
	then, was, f = dict.Put(then, -4096, 0)
	same(t, "put", told(was, f, len(then.Buckets[0].Items), then.Buckets[0].Items[0]), told(false, none, api.MaxList, api.Item{Key: -4096}))
	same(t, "4 again", putOf(t, dropOf(t, flat(1, 2, 3, 4), 2), 9), flat(1, 3, 4, 9))
}

// All: all items of all buckets, by their keys.
func TestAll(t *testing.T) {
	for _, c := range []struct {
		what string
		d    api.Dict
		keys []int
	}{
		{"none", flat(), nil},
		{"none, in many buckets", stem(6), nil},
		{"one", flat(7), []int{7}},
		{"one bucket", flat(-5, 0, 1, 9), []int{-5, 0, 1, 9}},
		{"the farthest keys", flat(math.MinInt, -1, 0, math.MaxInt), []int{math.MinInt, -1, 0, math.MaxInt}},
		{"two buckets by turns", table(1, []int{0, 1}, bucket(1, 0, 2, 4), bucket(1, 1, 3)), []int{0, 1, 2, 3, 4}},
		{"two buckets, the second one ahead", table(1, []int{0, 1}, bucket(1, 10, 12), bucket(1, 1, 3)), []int{1, 3, 10, 12}},
		{"below 0", table(1, []int{0, 1}, bucket(1, math.MinInt, -4, 0), bucket(1, -3, -1, math.MaxInt)), []int{math.MinInt, -4, -3, -1, 0, math.MaxInt}},
		{"a bucket of several places once", table(2, []int{0, 1, 2, 1}, bucket(2, 0), bucket(1, 1, 3), bucket(2, 2)), []int{0, 1, 2, 3}},
		{"some buckets empty", table(2, []int{0, 1, 2, 3}, bucket(2), bucket(2, 5), bucket(2), bucket(2, -1)), []int{-1, 5}},
		{"all Depths", table(3, []int{0, 1, 2, 1, 3, 1, 2, 1}, bucket(3, 0, 8), bucket(1, 1, 3, 5, 7), bucket(2, 2, 6), bucket(3, 4, 12)), []int{0, 1, 2, 3, 4, 5, 6, 7, 8, 12}},
		{"the order of bits is another one", leafy(3), []int{0, 1, 2, 3, 4, 5, 6, 7}},
	} {
		askAll(t, c.what, c.d, items(c.keys...), none)
	}
	askAll(t, "any values", table(0, []int{0}, api.Bucket{Items: []api.Item{{Key: 1, Value: 9}, {Key: 2}, {Key: 3, Value: -9}}}), []api.Item{{Key: 1, Value: 9}, {Key: 2}, {Key: 3, Value: -9}}, none)
	askAll(t, "many", deep(api.MaxList), deep(api.MaxList).Buckets[0].Items, none)
	var keys []int
	for key := range 4096 {
		keys = append(keys, key)
	}
	askAll(t, "a bucket each", leafy(mostDepth), items(keys...), none)
}
