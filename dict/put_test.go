package dict_test

import (
	"fmt"
	"math"
	"slices"
	"testing"

	"taskmill/api"
	"taskmill/dict"
)

// P18.2: a key that is there gets another value, and nothing else changes.
func TestPutAnew(t *testing.T) {
	for _, d := range []api.Dict{
		flat(7),
		flat(-5, 0, 1, 9),
		flat(math.MinInt, -1, 0, math.MaxInt),
		table(1, []int{0, 1}, bucket(1, 0, 2, 4), bucket(1, 1, 3, 5, 7)),
		table(1, []int{0, 1}, bucket(1, math.MinInt, -4, -2), bucket(1, -3, -1, math.MaxInt)),
		table(3, []int{0, 1, 2, 1, 3, 1, 2, 1}, bucket(3, 0, 8), bucket(1, 1, 3, 5, 7), bucket(2, 2, 6), bucket(3, 4, 12)),
		stem(5), leafy(4), deep(4), deep(5), deep(20),
	} {
		for number, one := range d.Buckets {
			for at, item := range one.Items {
				for _, value := range []int{0, 1, -1, item.Value, item.Value + 1, math.MinInt, math.MaxInt} {
					then := with(d, func(d *api.Dict) { d.Buckets[number].Items[at].Value = value })
					askPut(t, "anew", d, item.Key, value, then, true, none)
				}
			}
		}
	}
}

// P18.2: a key that is not there comes to its place among the keys of its bucket.
func TestPutPlace(t *testing.T) {
	for _, c := range []struct {
		what string
		d    api.Dict
		key  int
		then api.Dict
	}{
		{"the first one", flat(), 7, flat(7)},
		{"0", flat(), 0, flat(0)},
		{"below 0", flat(), -1, flat(-1)},
		{"the least int", flat(), math.MinInt, flat(math.MinInt)},
		{"the greatest int", flat(), math.MaxInt, flat(math.MaxInt)},
		{"ahead", flat(7), 6, flat(6, 7)},
		{"behind", flat(7), 8, flat(7, 8)},
		{"ahead of all", flat(1, 3, 5), 0, flat(0, 1, 3, 5)},
		{"second", flat(1, 3, 5), 2, flat(1, 2, 3, 5)},
		{"third", flat(1, 3, 5), 4, flat(1, 3, 4, 5)},
		{"behind all", flat(1, 3, 5), 6, flat(1, 3, 5, 6)},
		{"below 0 ahead of 0", flat(0, 1), -1, flat(-1, 0, 1)},
		{"between those below 0", flat(-9, -1, 4), -5, flat(-9, -5, -1, 4)},
		{"the least int ahead of all", flat(-9, 0, math.MaxInt), math.MinInt, flat(math.MinInt, -9, 0, math.MaxInt)},
		{"the greatest int behind all", flat(math.MinInt, 0, 9), math.MaxInt, flat(math.MinInt, 0, 9, math.MaxInt)},
		{"another one in the highest bit alone", flat(0), math.MinInt, flat(math.MinInt, 0)},
		{"another one in the last bit alone", flat(2), 3, flat(2, 3)},
		{"to the first bucket", table(1, []int{0, 1}, bucket(1, 0, 4), bucket(1, 1)), 2, table(1, []int{0, 1}, bucket(1, 0, 2, 4), bucket(1, 1))},
		{"to the second bucket", table(1, []int{0, 1}, bucket(1, 0, 4), bucket(1, 1)), -1, table(1, []int{0, 1}, bucket(1, 0, 4), bucket(1, -1, 1))},
		{"to an empty bucket", table(1, []int{0, 1}, bucket(1), bucket(1, 1)), math.MinInt, table(1, []int{0, 1}, bucket(1, math.MinInt), bucket(1, 1))},
		{"by the last bits, not the first ones", leafy(2), 6, with(leafy(2), func(d *api.Dict) { d.Buckets[2] = bucket(2, 2, 6) })},
		{"by the last bits, below 0", leafy(2), -4, with(leafy(2), func(d *api.Dict) { d.Buckets[0] = bucket(2, -4, 0) })},
		{"by the last bits, below 0 behind", leafy(2), -5, with(leafy(2), func(d *api.Dict) { d.Buckets[3] = bucket(2, -5, 3) })},
		{"to a bucket of several places", table(2, []int{0, 1, 2, 1}, bucket(2), bucket(1), bucket(2)), 3, table(2, []int{0, 1, 2, 1}, bucket(2), bucket(1, 3), bucket(2))},
		{"another one in the highest bit that is asked", table(1, []int{0, 1}, bucket(1, 0), bucket(1, 1)), 3, table(1, []int{0, 1}, bucket(1, 0), bucket(1, 1, 3))},
		{"the fifth one, at Depth 12", deep(4), -4096, with(deep(4), func(d *api.Dict) { d.Buckets[0].Items = items(-4096, 0, 4096, 8192, 12288) })},
	} {
		askPut(t, c.what, c.d, c.key, valueOf(c.key), c.then, false, none)
	}
	for _, value := range far() {
		askPut(t, "any value", flat(1, 3), 2, value, table(0, []int{0}, api.Bucket{Items: []api.Item{{Key: 1, Value: 4}, {Key: 2, Value: value}, {Key: 3, Value: 10}}}), false, none)
	}
}

// P18.2: the fifth item has its bucket split: whose Depth is the table's.
func TestPutSplit(t *testing.T) {
	for _, c := range []struct {
		what string
		d    api.Dict
		key  int
		then api.Dict
	}{
		{"the example", flat(0, 1, 2, 3), 4, table(1, []int{0, 1}, bucket(1, 0, 2, 4), bucket(1, 1, 3))},
		{"to the new one", flat(0, 1, 2, 3), 5, table(1, []int{0, 1}, bucket(1, 0, 2), bucket(1, 1, 3, 5))},
		{"keys below 0", flat(-4, -3, -2, -1), -5, table(1, []int{0, 1}, bucket(1, -4, -2), bucket(1, -5, -3, -1))},
		{"the farthest keys", flat(math.MinInt, -1, 0, math.MaxInt), 2, table(1, []int{0, 1}, bucket(1, math.MinInt, 0, 2), bucket(1, -1, math.MaxInt))},
		{"4 and 1", flat(0, 2, 4, 6), 1, table(1, []int{0, 1}, bucket(1, 0, 2, 4, 6), bucket(1, 1))},
		{"1 and 4", flat(1, 2, 3, 5), 7, table(1, []int{0, 1}, bucket(1, 2), bucket(1, 1, 3, 5, 7))},
		{"once more, the first half", flat(0, 2, 4, 6), 8, table(2, []int{0, 1, 2, 1}, bucket(2, 0, 4, 8), bucket(1), bucket(2, 2, 6))},
		{"once more, the second half", flat(1, 3, 5, 7), 9, table(2, []int{0, 1, 0, 2}, bucket(1), bucket(2, 1, 5, 9), bucket(2, 3, 7))},
		{"twice more", flat(0, 4, 8, 12), 16, table(3, []int{0, 1, 2, 1, 3, 1, 2, 1}, bucket(3, 0, 8, 16), bucket(1), bucket(2), bucket(3, 4, 12))},
		{"twice more, the second half", flat(3, 7, 11, 15), 19, table(3, []int{0, 1, 0, 2, 0, 1, 0, 3}, bucket(1), bucket(2), bucket(3, 3, 11, 19), bucket(3, 7, 15))},
		{"twice more, below 0", flat(-13, -9, -5, -1), -17, table(3, []int{0, 1, 0, 2, 0, 1, 0, 3}, bucket(1), bucket(2), bucket(3, -13, -5), bucket(3, -17, -9, -1))},
		{"the first bucket of a deeper table", table(1, []int{0, 1}, bucket(1, 0, 2, 4, 6), bucket(1, 1, 3)), 8, table(2, []int{0, 1, 2, 1}, bucket(2, 0, 4, 8), bucket(1, 1, 3), bucket(2, 2, 6))},
		{"the second bucket of a deeper table", table(1, []int{0, 1}, bucket(1, 0, 2), bucket(1, 1, 3, 5, 7)), 9, table(2, []int{0, 1, 0, 2}, bucket(1, 0, 2), bucket(2, 1, 5, 9), bucket(2, 3, 7))},
	} {
		askPut(t, c.what, c.d, c.key, valueOf(c.key), c.then, false, none)
	}
}

// P18.2: the same of a bucket whose Depth is below the table's: the table does not become deeper, and buckets that its places come to later are numbered anew.
func TestPutSplitShallow(t *testing.T) {
	for _, c := range []struct {
		what string
		d    api.Dict
		key  int
		then api.Dict
	}{
		{"the second one",
			table(2, []int{0, 1, 2, 1}, bucket(2, 0, 4, 8), bucket(1, 1, 3, 5, 7), bucket(2, 2, 6)), 9,
			table(2, []int{0, 1, 2, 3}, bucket(2, 0, 4, 8), bucket(2, 1, 5, 9), bucket(2, 2, 6), bucket(2, 3, 7))},
		{"the first one, ahead of others",
			table(3, []int{0, 1, 0, 2, 0, 3, 0, 2}, bucket(1, 0, 2, 4, 6), bucket(3, 1, 9), bucket(2, 3, 7), bucket(3, 5, 13)), 8,
			table(3, []int{0, 1, 2, 3, 0, 4, 2, 3}, bucket(2, 0, 4, 8), bucket(3, 1, 9), bucket(2, 2, 6), bucket(2, 3, 7), bucket(3, 5, 13))},
		{"one between",
			table(3, []int{0, 1, 2, 1, 3, 1, 2, 1}, bucket(3, 0), bucket(1, 1, 3, 5, 7), bucket(2, 2), bucket(3, 4)), -1,
			table(3, []int{0, 1, 2, 3, 4, 1, 2, 3}, bucket(3, 0), bucket(2, 1, 5), bucket(2, 2), bucket(2, -1, 3, 7), bucket(3, 4))},
		{"twice, up to the table's",
			table(3, []int{0, 1, 2, 1, 3, 1, 2, 1}, bucket(3, 0), bucket(1, 1, 5, 9, 13), bucket(2, 2), bucket(3, 4)), 17,
			table(3, []int{0, 1, 2, 3, 4, 5, 2, 3}, bucket(3, 0), bucket(3, 1, 9, 17), bucket(2, 2), bucket(2), bucket(3, 4), bucket(3, 5, 13))},
		{"twice, and once beyond the table's",
			table(2, []int{0, 1, 2, 1}, bucket(2, 0), bucket(1, 3, 7, 11, 15), bucket(2, 2)), 19,
			table(3, []int{0, 1, 2, 3, 0, 1, 2, 4}, bucket(2, 0), bucket(2), bucket(2, 2), bucket(3, 3, 11, 19), bucket(3, 7, 15))},
	} {
		askPut(t, c.what, c.d, c.key, valueOf(c.key), c.then, false, none)
	}
}

// P18.2: a split may leave one half empty, and then another one follows, up to the bit in which the keys are not all the same.
func TestPutSplitOnAndOn(t *testing.T) {
	for bits := range mostDepth {
		d, then := flat(), stem(bits+1)
		zero, one := &then.Buckets[0].Items, &then.Buckets[bits+1].Items
		*zero, *one = nil, nil
		for n := range 5 {
			key := n << (bits + 1)
			if n%2 == 1 {
				key += 1 << bits
				*one = append(*one, items(key)...)
			} else {
				*zero = append(*zero, items(key)...)
			}
			if n < 4 {
				d.Buckets[0].Items = append(d.Buckets[0].Items, items(key)...)
			} else {
				askPut(t, fmt.Sprint("bit ", bits), d, key, valueOf(key), then, false, none)
			}
		}
	}
}

// P18.2: a bucket of Depth 12 has more than 4 items, and is not split.
func TestPutDeepest(t *testing.T) {
	for _, keys := range [][]int{
		{0, 4096, 8192, 12288, 16384},
		{math.MinInt, -8192, -4096, 0, 4096},
		{0, 1 << 12, 1 << 13, 1 << 40, 1 << 62},
	} {
		then := stem(mostDepth)
		then.Buckets[0].Items = items(keys...)
		askPut(t, "the fifth one", flat(keys[:4]...), keys[4], valueOf(keys[4]), then, false, none)
		same(t, "check", dict.Check(then), none)
	}
	for many := range 12 {
		askPut(t, "one more", deep(many), many<<mostDepth, valueOf(many<<mostDepth), deep(many+1), false, none)
	}
	ones := putOf(t, dict.New(), -1, -1-4096, -1-2*4096, -1-3*4096, -1-4*4096)
	same(t, "bits of 1 alone", told(ones.Depth, len(ones.Buckets), ones.Buckets[12].Items), told(12, 13, items(-1-4*4096, -1-3*4096, -1-2*4096, -1-4096, -1)))
	for number, one := range ones.Buckets[:12] {
		same(t, fmt.Sprint("bucket ", number), one, bucket(number+1))
	}
	same(t, "another one in the bit 11 alone", putOf(t, deep(5), 2048).Buckets[12], bucket(12, 2048))
}

// P18.2: MaxList items, in the bucket that may have the key.
func TestPutMuch(t *testing.T) {
	full := deep(api.MaxList)
	for _, key := range []int{math.MinInt, -4096, api.MaxList << mostDepth, 1 << 62, -1 << 62} {
		askPut(t, "one too many", full, key, 1, api.Dict{}, false, fault(api.ErrMuch, 0))
	}
	between := with(full, func(d *api.Dict) { d.Buckets[0].Items[api.MaxList-1].Key += 4096 })
	askPut(t, "one too many between", between, (api.MaxList-1)<<mostDepth, 1, api.Dict{}, false, fault(api.ErrMuch, 0))
	for _, at := range []int{0, 1, 2500, api.MaxList - 1} {
		then := with(full, func(d *api.Dict) { d.Buckets[0].Items[at].Value = -8 })
		askPut(t, "a key that is there", full, at<<mostDepth, -8, then, true, none)
	}
	for _, key := range []int{1, 2, 2048, -1, math.MaxInt, 1 << 11} {
		then, was, f := dict.Put(full, key, 5)
		same(t, "to another bucket", told(was, f, len(then.Buckets[0].Items), dict.Check(then)), told(false, none, api.MaxList, none))
	}
	askPut(t, "one item fewer", deep(api.MaxList-1), (api.MaxList-1)<<mostDepth, valueOf((api.MaxList-1)<<mostDepth), full, false, none)
	ahead := with(full, func(d *api.Dict) {
		d.Buckets[0].Items = slices.Insert(d.Buckets[0].Items[:api.MaxList-1], 0, items(-4096)...)
	})
	askPut(t, "one item fewer, ahead", deep(api.MaxList-1), -4096, valueOf(-4096), ahead, false, none)
	for at := 1; at < 4; at++ { // a bucket that is not the first one: At is 0 all the same
		d := stem(mostDepth)
		place := slices.Index(d.Places, 12)
		for n := range api.MaxList {
			d.Buckets[12].Items = append(d.Buckets[12].Items, items(place+n<<mostDepth)...)
		}
		askPut(t, "the last bucket", d, place-at<<mostDepth, at, api.Dict{}, false, fault(api.ErrMuch, 0))
	}
}

// P18.2: which places a split leaves to a bucket, and which go: of a table of one bucket, all Depths down.
func TestPutPlaces(t *testing.T) {
	for place := range 16 {
		d := flat()
		for n := range 4 {
			d.Buckets[0].Items = append(d.Buckets[0].Items, items(place+n<<5)...)
		}
		then, _, f := dict.Put(d, place+16, 0)
		same(t, "depth", told(then.Depth, len(then.Buckets), f), told(5, 6, none))
		for at, number := range then.Places {
			depth := 1
			for depth < 5 && (at^place)>>(depth-1)%2 == 0 {
				depth++
			}
			same(t, fmt.Sprint("the bucket of ", at), then.Buckets[number].Depth, depth)
		}
	}
}
