package dict_test

import (
	"fmt"
	"math/rand"
	"slices"
	"testing"

	"taskmill/api"
	"taskmill/dict"
)

// askCheck holds what Check answers against what the words say.
func askCheck(t *testing.T, d api.Dict) int {
	t.Helper()
	want := checkByTheWords(d)
	if got := dict.Check(d); got != want {
		same(t, fmt.Sprintf("check %.500s", fmt.Sprint(d)), got, want)
	}
	return want.Code
}

// askKey holds what all others answer of a key against what the words say; it answers whether the key was there, and Put's code.
func askKey(t *testing.T, d api.Dict, key, value int) (bool, int) {
	t.Helper()
	const what = "by the words"
	v, there, f := getByTheWords(d, key)
	askGet(t, what, d, key, v, there, f)
	then, was, f := dropByTheWords(d, key)
	askDrop(t, what, d, key, then, was, f)
	list, f := allByTheWords(d)
	askAll(t, what, d, list, f)
	then, was, f = putByTheWords(d, key, value)
	askPut(t, what, d, key, value, then, was, f)
	return there, f.Code
}

// askCodes asks whether each fault came so often.
func askCodes(t *testing.T, codes map[int]int, often int, want ...int) {
	t.Helper()
	for _, code := range want {
		if codes[code] < often {
			t.Errorf("not all faults were asked: %v", codes)
		}
	}
}

// P18.1, at all lists of places and of empty buckets, the right ones and those that are not, of a few.
func TestSmallTables(t *testing.T) {
	codes := map[int]int{}
	var buckets []api.Bucket
	for depth := -1; depth <= 3; depth++ {
		buckets = append(buckets, bucket(depth))
	}
	lists := allLists(4, buckets)
	for depth := -1; depth <= 2; depth++ {
		for _, places := range allLists(4, []int{-1, 0, 1, 2, 3}) {
			if len(places) != 1<<max(0, depth) && len(places) != 1 {
				continue
			}
			for _, list := range lists {
				codes[askCheck(t, table(depth, places, list...))]++
			}
		}
	}
	same(t, "the right ones are the trees that are not deeper than 2", codes[api.OK], len(allTrees(0, 2)))
	same(t, "trees as deep as 0 or 1 at a greater Depth", codes[api.ErrFalse], 2+1)
	askCodes(t, codes, 100, api.ErrRange, api.ErrSize, api.ErrForm, api.ErrKind)
}

// P18.1, at all places of 8 that may be told so, with the Depths that are right, and with others.
func TestPlacesOfEight(t *testing.T) {
	codes, others := map[int]int{}, map[int]int{}
	r := rand.New(rand.NewSource(481))
	for n := range powerOf(16) {
		d := table(3, nil)
		for at := range 8 {
			d.Places = append(d.Places, n>>(2*at)%4)
		}
		for range slices.Max(d.Places) + 1 {
			d.Buckets = append(d.Buckets, bucket(r.Intn(4)))
		}
		others[askCheck(t, d)]++
		for number := range d.Buckets {
			first := slices.Index(d.Places, number)
			d.Buckets[number].Depth = 3
			for depth := 2; depth >= 0; depth-- {
				if first >= 0 && first+1<<depth < 8 && d.Places[first+1<<depth] == number {
					d.Buckets[number].Depth = depth
				}
			}
		}
		codes[askCheck(t, d)]++
	}
	same(t, "trees as deep as 3, of 4 leaves", codes[api.OK], 4)
	same(t, "trees that are not as deep", codes[api.ErrFalse], len(allTrees(0, 2)))
	askCodes(t, codes, 100, api.ErrForm, api.ErrKind)
	askCodes(t, others, 100, api.ErrForm, api.ErrKind)
}

// P18.1, at all short lists of keys.
func TestSmallBuckets(t *testing.T) {
	codes := map[int]int{}
	lists := allLists(5, []int{-2, -1, 0, 1})
	few := allLists(2, []int{-2, -1, 0, 1})
	for _, keys := range lists {
		codes[askCheck(t, flat(keys...))]++
		for _, others := range few {
			codes[askCheck(t, table(1, []int{0, 1}, bucket(1, keys...), bucket(1, others...)))]++
			codes[askCheck(t, table(1, []int{0, 1}, bucket(1, others...), bucket(1, keys...)))]++
		}
	}
	askCodes(t, codes, 16, api.OK, api.ErrMany, api.ErrState, api.ErrTwice)
}

// P18.1 and P18.2, at all trees of few leaves, filled anyhow, with all keys near 0 and a few more.
func TestSmallTrees(t *testing.T) {
	r := rand.New(rand.NewSource(482))
	is, grows := 0, 0
	for _, tree := range allTrees(0, 3) {
		for round := range 4 {
			fill(r, tree, 20*round)
			d := tree.table()
			same(t, "check", dict.Check(d), none)
			for key := -17; key <= 17; key++ {
				there, code := askKey(t, d, key, r.Int())
				if there {
					is++
				} else if then, _, _ := dict.Put(d, key, 0); code == api.OK && len(then.Buckets) > len(d.Buckets) {
					grows++
				}
			}
		}
	}
	if is < 500 || grows < 300 {
		t.Errorf("only %d were there, and %d grew", is, grows)
	}
}

// P18.1 and P18.2, at any tables.
func TestAnyTables(t *testing.T) {
	r := rand.New(rand.NewSource(483))
	is, grows, deepest := 0, 0, 0
	for range 4000 {
		d := anyTable(r)
		same(t, "check", askCheck(t, d), api.OK)
		key := anyKey(r, d)
		there, _ := askKey(t, d, key, anyNumber(r))
		then, _, _ := dict.Put(d, key, 0)
		switch {
		case there:
			is++
		case then.Depth == mostDepth:
			deepest++
		case len(then.Buckets) > len(d.Buckets):
			grows++
		}
	}
	if is < 1000 || grows < 100 || deepest < 50 {
		t.Errorf("only %d were there, %d grew, and %d are deep", is, grows, deepest)
	}
}

// P1: no call panics whatever it is given, and each answers what the document's words say, and the same again.
func TestWildInputs(t *testing.T) {
	r := rand.New(rand.NewSource(484))
	codes := map[int]int{}
	const times = 6000
	for range times {
		d := anyTable(r)
		key, value := anyKey(r, d), anyNumber(r)
		if len(d.Places) > 100 && r.Intn(4) > 0 { // these take long
			continue
		}
		for range r.Intn(3) {
			if len(d.Places) > 0 && len(d.Buckets) > 0 {
				d = spoiled(r, d)
			}
		}
		codes[askCheck(t, d)]++
		askKey(t, d, key, value)
		askKey(t, d, key, value)
	}
	askCodes(t, codes, 30, api.OK, api.ErrRange, api.ErrSize, api.ErrForm, api.ErrKind, api.ErrMany, api.ErrState, api.ErrTwice, api.ErrFalse)
}

// P1: the farthest numbers, everywhere at once.
func TestFarthest(t *testing.T) {
	for _, n := range far() {
		for _, m := range far() {
			for _, d := range []api.Dict{
				table(n, []int{m}, bucket(n, m)), table(n, nil), table(0, []int{n}, bucket(m)), table(0, []int{0}, bucket(n, m)), table(0, []int{0}, bucket(0, n, m)),
				table(1, []int{0, n}, bucket(1, m), bucket(1, n)), table(1, []int{0, 1}, bucket(1, n), bucket(m, n)), table(2, []int{0, 1, n, m}, bucket(1), bucket(2), bucket(2)),
			} {
				askCheck(t, d)
			}
			askKey(t, flat(n), m, n)
			askKey(t, table(1, []int{0, 1}, bucket(1, n&^1), bucket(1, m|1)), m, n)
		}
	}
}

// P1: very many places, buckets and items end, too.
func TestVeryMany(t *testing.T) {
	const many = 1000000
	same(t, "places", dict.Check(table(12, make([]int, many), bucket(0))), fault(api.ErrSize, -1))
	same(t, "buckets", dict.Check(table(0, []int{0}, make([]api.Bucket, many)...)), fault(api.ErrSize, -1))
	same(t, "items", dict.Check(table(0, []int{0}, api.Bucket{Items: make([]api.Item, many)})), fault(api.ErrMany, 0))
	same(t, "deep items", dict.Check(deep(many)), fault(api.ErrMuch, 0))
	full := leafy(mostDepth)
	for number := range full.Buckets {
		for n := range 100 {
			full.Buckets[number].Items = append(full.Buckets[number].Items, api.Item{Key: number + (n+1)<<mostDepth})
		}
	}
	list, f := dict.All(full)
	same(t, "all", told(f, len(list), list[0].Key, list[len(list)-1].Key), told(none, 101*4096, 0, 4095+100<<mostDepth))
	isRising := slices.IsSortedFunc(list, byKey)
	same(t, "rising", isRising, true)
}
