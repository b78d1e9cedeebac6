package dict

import (
	"slices"
	"sort"

	"taskmill/api"
)

// mostItems are as many as a bucket has that is not to be split.
const mostItems = 4

// isToSplit: has a bucket so many items that it is to be split?
func isToSplit(one api.Bucket) bool {
	return len(one.Items) > mostItems && one.Depth < maxDepth
}

// wrongBucket answers the code of what is wrong with a bucket of a table, which these places tell.
func wrongBucket(one api.Bucket, depth int, by tellers) int {
	switch {
	case one.Depth < 0 || one.Depth > depth || !by.areAll(one.Depth, depth):
		return api.ErrKind
	case isToSplit(one):
		return api.ErrMany
	}
	if code := wrongItem(one, by.first); code != api.OK {
		return code
	}
	if len(one.Items) > api.MaxList {
		return api.ErrMuch
	}
	return api.OK
}

// wrongItem answers the code of what is wrong with the first wrong item of a bucket, which a place tells.
func wrongItem(one api.Bucket, place int) int {
	for i, item := range one.Items {
		switch {
		case last(item.Key, one.Depth) != last(place, one.Depth):
			return api.ErrState
		case i > 0 && item.Key <= one.Items[i-1].Key:
			return api.ErrTwice
		}
	}
	return api.OK
}

// find answers which bucket may have a key, where among its items the key stands or would come, and whether it is there.
func find(d api.Dict, key int) (number, at int, there bool) {
	number = bucketOf(d, key)
	items := d.Buckets[number].Items
	at = sort.Search(len(items), func(i int) bool { return items[i].Key >= key })
	return number, at, at < len(items) && items[at].Key == key
}

// grown splits the bucket that may have a key as long as it is to be split. The table's memory is the call's own.
func grown(d api.Dict, key int) api.Dict {
	for isToSplit(d.Buckets[bucketOf(d, key)]) {
		d = numbered(split(d, bucketOf(d, key)))
	}
	return d
}

// split parts a bucket of a table, whose memory is the call's own; the new bucket is the last one.
func split(d api.Dict, number int) api.Dict {
	old := d.Buckets[number]
	if old.Depth == d.Depth {
		d.Depth++
		d.Places = slices.Concat(d.Places, d.Places)
	}
	goes := func(bits int) bool { return bits>>old.Depth&1 == 1 }
	for place, tells := range d.Places {
		if tells == number && goes(place) {
			d.Places[place] = len(d.Buckets)
		}
	}
	stay, gone := parted(old.Items, goes)
	d.Buckets[number] = api.Bucket{Depth: old.Depth + 1, Items: stay}
	d.Buckets = append(d.Buckets, api.Bucket{Depth: old.Depth + 1, Items: gone})
	return d
}

// parted answers the items whose keys ask tells false of, and those it tells true of, in new memory.
func parted(items []api.Item, ask func(key int) bool) (no, yes []api.Item) {
	for _, one := range items {
		if ask(one.Key) {
			yes = append(yes, one)
		} else {
			no = append(no, one)
		}
	}
	return no, yes
}

// copied answers a table in new memory.
func copied(d api.Dict) api.Dict {
	d.Places = append([]int{}, d.Places...)
	d.Buckets = append([]api.Bucket{}, d.Buckets...)
	for number, one := range d.Buckets {
		d.Buckets[number].Items = append([]api.Item{}, one.Items...)
	}
	return d
}
