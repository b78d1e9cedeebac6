package dict_test

import (
	"fmt"
	"math/rand"
	"slices"
	"testing"

	"taskmill/api"
	"taskmill/dict"
)

// roomy is a list with more behind its length, which nobody may read or write.
func roomy[E any](list []E, behind E) []E {
	return append(slices.Clone(list), behind, behind, behind)[:len(list)]
}

// whole is a list with what lies behind its length.
func whole[E any](list []E) []E { return list[:cap(list)] }

// roomyTable is a table whose lists all have more behind their length.
func roomyTable(d api.Dict, place int, one api.Bucket, item api.Item) api.Dict {
	d = copied(d)
	for i := range d.Buckets {
		d.Buckets[i].Items = roomy(d.Buckets[i].Items, item)
	}
	d.Places, d.Buckets = roomy(d.Places, place), roomy(d.Buckets, one)
	return d
}

// wholeTable tells of a table with what lies behind its lists.
func wholeTable(d api.Dict) string {
	text := fmt.Sprint(d.Depth, len(d.Places), whole(d.Places), len(d.Buckets), whole(d.Buckets))
	for _, one := range d.Buckets {
		text += fmt.Sprint(len(one.Items), whole(one.Items))
	}
	return text
}

// spoil writes over all the memory of a table's lists, also behind their lengths.
func spoil(d api.Dict) {
	for _, one := range d.Buckets {
		for i := range whole(one.Items) {
			whole(one.Items)[i] = api.Item{Key: 77, Value: 77}
		}
	}
	for i := range whole(d.Places) {
		whole(d.Places)[i] = 77
	}
	for i := range whole(d.Buckets) {
		whole(d.Buckets)[i] = api.Bucket{Depth: 77}
	}
}

// smallTable is one that is told fast.
func smallTable(r *rand.Rand) api.Dict {
	for {
		if d := anyTable(r); len(d.Places) < 100 {
			return d
		}
	}
}

// answers are what all calls answer, told.
func answers(d api.Dict, key, value int) string {
	v, is, f := dict.Get(d, key)
	put, was, g := dict.Put(d, key, value)
	left, went, h := dict.Drop(d, key)
	all, i := dict.All(d)
	return told(dict.Check(d), v, is, f, put, was, g, left, went, h, all, i)
}

// Lists that are handed in are only read, and what lies behind their length is neither read nor written.
func TestListsAreOnlyRead(t *testing.T) {
	r := rand.New(rand.NewSource(491))
	for range 1500 {
		d := smallTable(r)
		key, value := anyKey(r, d), anyNumber(r)
		if r.Intn(10) == 0 {
			d = spoiled(r, d)
		}
		before := fmt.Sprint(d)
		want := answers(copied(d), key, value)
		same(t, "the answers", answers(d, key, value), want)
		same(t, "what was handed in", fmt.Sprint(d), before)
		for _, behind := range []int{-1, 0, key, len(d.Buckets)} {
			short := roomyTable(d, behind, bucket(behind, key, key), api.Item{Key: key, Value: behind})
			before := wholeTable(short)
			same(t, "the answers", answers(short, key, value), want)
			same(t, "what was handed in", wholeTable(short), before)
		}
	}
}

// The items of all buckets may stand in one memory, one list behind the other.
func TestListsInOneMemory(t *testing.T) {
	r := rand.New(rand.NewSource(492))
	for range 1500 {
		d := smallTable(r)
		key, value := anyKey(r, d), anyNumber(r)
		want := answers(d, key, value)
		one := copied(d)
		var all []api.Item
		for _, b := range d.Buckets {
			all = append(all, b.Items...)
		}
		from := 0
		for i, b := range d.Buckets {
			one.Buckets[i].Items = all[from : from+len(b.Items)]
			from += len(b.Items)
		}
		same(t, "the answers", answers(one, key, value), want)
		same(t, "what was handed in", one, d)
	}
}

// What lies behind a list's length is no place, no bucket and no item.
func TestBehindIsNothing(t *testing.T) {
	two := table(1, []int{0, 1}, bucket(1, 2), bucket(1, 3))
	askFault(t, "a place behind", table(1, two.Places[:1], two.Buckets...), fault(api.ErrSize, -1))
	askFault(t, "a bucket behind", table(1, two.Places, two.Buckets[:1]...), fault(api.ErrForm, 1))
	askFault(t, "all buckets behind", table(0, two.Places[:1], two.Buckets[:0]...), fault(api.ErrForm, 0))
	askRight(t, "one more of each behind", roomyTable(two, 9, bucket(9, 9), api.Item{Key: -9}))
	five := items(0, 1, 2, 3, 4)
	askRight(t, "a fifth item behind", table(0, []int{0}, api.Bucket{Items: five[:4]}))
	askGet(t, "an item behind", table(0, []int{0}, api.Bucket{Items: five[:4]}), 4, 0, false, none)
	askDrop(t, "an item behind", table(0, []int{0}, api.Bucket{Items: five[:3]}), 3, flat(0, 1, 2), false, none)
	askPut(t, "an item behind", table(0, []int{0}, api.Bucket{Items: five[:3]}), 3, 0, table(0, []int{0}, api.Bucket{Items: append(items(0, 1, 2), api.Item{Key: 3})}), false, none)
	askAll(t, "an item behind", table(0, []int{0}, api.Bucket{Items: five[:1]}), items(0), none)
	same(t, "the items", five, items(0, 1, 2, 3, 4))
	many := deep(api.MaxList + 1)
	many.Buckets[0].Items = many.Buckets[0].Items[:api.MaxList]
	askRight(t, "too many behind", many)
}

// nil and empty lists are the same.
func TestEmptyLists(t *testing.T) {
	for _, empty := range [][]api.Item{nil, {}, make([]api.Item, 0, 9)} {
		d := table(0, []int{0}, api.Bucket{Items: empty})
		askRight(t, "no items", d)
		askGet(t, "no items", d, 0, 0, false, none)
		askPut(t, "no items", d, 0, 1, flat(0), false, none)
		askDrop(t, "no items", d, 0, flat(), false, none)
		askAll(t, "no items", d, nil, none)
		two := table(1, []int{0, 1}, api.Bucket{Depth: 1, Items: empty}, bucket(1, 1, 3, 5, 7))
		askPut(t, "a split beside it", two, 9, valueOf(9), table(2, []int{0, 1, 0, 2}, bucket(1), bucket(2, 1, 5, 9), bucket(2, 3, 7)), false, none)
	}
	for _, places := range [][]int{nil, {}, make([]int, 0, 9)} {
		for _, buckets := range [][]api.Bucket{nil, {}, make([]api.Bucket, 0, 9)} {
			askFault(t, "no places", api.Dict{Places: places, Buckets: buckets}, fault(api.ErrSize, -1))
			askFault(t, "no buckets", api.Dict{Places: []int{0}, Buckets: buckets}, fault(api.ErrForm, 0))
		}
	}
}

// askMemory asks of an answer that its lists share nothing with one another nor with what was handed in; ask tells that.
func askMemory(t *testing.T, what string, got api.Dict, ask func() string) {
	t.Helper()
	before := ask()
	for number, one := range got.Buckets {
		for i := range whole(one.Items) {
			whole(one.Items)[i] = api.Item{Key: number, Value: -7}
		}
	}
	for number, one := range got.Buckets {
		for _, item := range whole(one.Items) {
			if item != (api.Item{Key: number, Value: -7}) {
				t.Fatalf("%s: %v is in the memory of the bucket %d", what, item, number)
			}
		}
	}
	spoil(got)
	if after := ask(); after != before {
		same(t, what+": the rest", after, before)
	}
}

// What is answered is new memory, and none is kept.
func TestAnswersAreNewMemory(t *testing.T) {
	r := rand.New(rand.NewSource(493))
	puts, anew, drops, nones, grows := 0, 0, 0, 0, 0
	for range 3000 {
		d := smallTable(r)
		key, value := anyKey(r, d), anyNumber(r)
		put, was, _ := dict.Put(d, key, value)
		left, went, _ := dict.Drop(d, key)
		all, _ := dict.All(d)
		switch {
		case was && went:
			anew, drops = anew+1, drops+1
		default:
			puts, nones = puts+1, nones+1
			if len(put.Buckets) > len(d.Buckets) {
				grows++
			}
		}
		askMemory(t, "put", put, func() string { return told(d, left, all, answers(d, key, value)) })
		askMemory(t, "drop", left, func() string { return told(d, put, all, answers(d, key, value)) })
		before := told(d, put, left, answers(d, key, value))
		for i := range whole(all) {
			whole(all)[i] = api.Item{Key: 77, Value: 77}
		}
		same(t, "all: the rest", told(d, put, left, answers(d, key, value)), before)
	}
	if puts < 500 || anew < 500 || grows < 100 {
		t.Errorf("only %d were put, %d anew, %d grew, %d dropped, and %d not there", puts, anew, grows, drops, nones)
	}
	for range 3 {
		askMemory(t, "new", dict.New(), func() string { return fmt.Sprint(dict.New()) })
	}
}

// The same where a put splits down to Depth 12, and where it doubles the places once more.
func TestDeepAnswersAreNewMemory(t *testing.T) {
	for _, d := range []api.Dict{flat(0, 4096, 8192, 12288), stem(11), stem(12), deep(4), leafy(11), with(stem(11), func(d *api.Dict) { d.Buckets[0].Items = items(0, 4096, 8192, 12288) })} {
		before := told(d)
		put, _, _ := dict.Put(d, 16384, 1)
		want := told(put)
		left, _, _ := dict.Drop(d, 0)
		askMemory(t, "put", put, func() string { return told(d, left) })
		askMemory(t, "drop", left, func() string { return told(d) })
		same(t, "what was handed in", told(d), before)
		put, _, _ = dict.Put(d, 16384, 1)
		same(t, "the same again", told(put), want)
		spoil(d)
		same(t, "the answer", told(put), want)
	}
}

// What was answered stays as it is, when what was handed in is changed.
func TestNothingHandedInIsKept(t *testing.T) {
	r := rand.New(rand.NewSource(494))
	for range 2000 {
		d := smallTable(r)
		key := anyKey(r, d)
		put, was, f := dict.Put(d, key, 1)
		left, went, g := dict.Drop(d, key)
		all, h := dict.All(d)
		want := told(put, was, f, left, went, g, all, h)
		spoil(d)
		same(t, "the answers", told(put, was, f, left, went, g, all, h), want)
	}
}

// What is answered hangs on the arguments alone, not on what was asked ahead.
func TestNothingIsKept(t *testing.T) {
	for range 3 {
		same(t, "new", dict.New(), flat())
		askPut(t, "put", flat(0, 1, 2, 3), 4, valueOf(4), table(1, []int{0, 1}, bucket(1, 0, 2, 4), bucket(1, 1, 3)), false, none)
		askPut(t, "again", flat(0, 1, 2, 3), 4, valueOf(4), table(1, []int{0, 1}, bucket(1, 0, 2, 4), bucket(1, 1, 3)), false, none)
		askGet(t, "get", flat(0, 1, 2, 3), 4, 0, false, none)
		askDrop(t, "drop", flat(0, 1), 1, flat(0), true, none)
		askDrop(t, "none", flat(0), 1, flat(0), false, none)
		askAll(t, "all", flat(0, 1), items(0, 1), none)
		askFault(t, "wrong", flat(1, 0), fault(api.ErrTwice, 0))
		askRight(t, "right", flat(0, 1))
	}
}
