package dict_test

import (
	"fmt"
	"math"
	"slices"
	"testing"

	"taskmill/api"
	"taskmill/dict"
)

// P18.1: tables of which nothing is wrong.
func TestCheckRight(t *testing.T) {
	for _, c := range []struct {
		what string
		d    api.Dict
	}{
		{"new", dict.New()},
		{"no items", flat()},
		{"one item", flat(7)},
		{"4 items", flat(-5, 0, 1, 9)},
		{"the farthest keys", flat(math.MinInt, -1, 0, math.MaxInt)},
		{"two buckets", table(1, []int{0, 1}, bucket(1, 0, 2, 4), bucket(1, 1, 3))},
		{"two empty buckets", table(1, []int{0, 1}, bucket(1), bucket(1))},
		{"keys below 0", table(1, []int{0, 1}, bucket(1, math.MinInt, -4, -2), bucket(1, -3, -1, math.MaxInt))},
		{"four buckets", table(2, []int{0, 1, 2, 3}, bucket(2, -4, 0), bucket(2, -3, 1), bucket(2, -2, 2), bucket(2, -1, 3))},
		{"a shallow bucket behind", table(2, []int{0, 1, 2, 1}, bucket(2, 0, 4, 8), bucket(1, 1, 3, 5), bucket(2, 2, 6))},
		{"a shallow bucket ahead", table(2, []int{0, 1, 0, 2}, bucket(1, 0, 2, 4), bucket(2, 1, 5, 9), bucket(2, 3, 7))},
		{"all Depths", table(3, []int{0, 1, 2, 1, 3, 1, 2, 1}, bucket(3, 0, 8), bucket(1, 1, 3, 5, 7), bucket(2, 2, 6), bucket(3, 4, 12))},
		{"all Depths, the other way round", table(3, []int{0, 1, 0, 2, 0, 1, 0, 3}, bucket(1, 0, 2, 4, 6), bucket(2, 1, 5), bucket(3, 3, 11), bucket(3, 7))},
		{"a bucket of Depth 12 with 5 items", deep(5)},
		{"a bucket of Depth 12 with MaxList items", deep(api.MaxList)},
	} {
		askRight(t, c.what, c.d)
	}
	for depth := range mostDepth + 1 {
		askRight(t, fmt.Sprint("stem ", depth), stem(depth))
		askRight(t, fmt.Sprint("leafy ", depth), leafy(depth))
	}
}

// P18.1: Depth is from 0 to 12, which is asked ahead of how many places there are.
func TestCheckDepth(t *testing.T) {
	for _, depth := range far() {
		if depth >= 0 && depth <= mostDepth {
			continue
		}
		what := fmt.Sprint(depth)
		askFault(t, what+", no places", table(depth, nil), fault(api.ErrRange, -1))
		askFault(t, what+", one place", table(depth, []int{0}, bucket(0)), fault(api.ErrRange, -1))
		askFault(t, what+", a wrong place", table(depth, []int{-1}, bucket(-1, 3, 2, 1)), fault(api.ErrRange, -1))
	}
	askFault(t, "13, with its places", table(13, make([]int, 1<<13), bucket(0)), fault(api.ErrRange, -1))
	deeper := stem(mostDepth)
	deeper.Depth, deeper.Places = 13, slices.Concat(deeper.Places, deeper.Places)
	deeper.Buckets[0].Depth = 13
	askFault(t, "13, with its buckets", deeper, fault(api.ErrRange, -1))
}

// P18.1: there are 2 to the power of Depth places, which is asked ahead of what they tell.
func TestCheckPlaces(t *testing.T) {
	for depth := range mostDepth + 1 {
		for _, many := range []int{0, 1, 1<<depth - 1, 1<<depth + 1, 1 << depth / 2, 2 << depth, depth} {
			if many == 1<<depth {
				continue
			}
			what := fmt.Sprint(many, " places at ", depth)
			d := table(depth, make([]int, many), bucket(0))
			askFault(t, what, d, fault(api.ErrSize, -1))
			askFault(t, what+", no buckets", table(depth, d.Places), fault(api.ErrSize, -1))
			for at := range d.Places {
				d.Places[at] = -1
			}
			askFault(t, what+" that are wrong", d, fault(api.ErrSize, -1))
		}
		d := stem(depth)
		askFault(t, "one too few", table(depth, d.Places[1:], d.Buckets...), fault(api.ErrSize, -1))
		askFault(t, "one too many", table(depth, append(d.Places, 0), d.Buckets...), fault(api.ErrSize, -1))
	}
}

// P18.1: the first place that tells no bucket, or one above the least that none ahead of it tells.
func TestCheckForm(t *testing.T) {
	one := []api.Bucket{bucket(0)}
	two := []api.Bucket{bucket(1), bucket(1)}
	four := []api.Bucket{bucket(2), bucket(2), bucket(2), bucket(2)}
	for _, c := range []struct {
		what    string
		depth   int
		places  []int
		buckets []api.Bucket
		at      int
	}{
		{"no buckets", 0, []int{0}, nil, 0},
		{"no buckets, -1", 0, []int{-1}, nil, 0},
		{"no buckets, several places", 2, []int{0, 0, 0, 0}, nil, 0},
		{"-1", 0, []int{-1}, one, 0},
		{"the number of buckets", 0, []int{1}, one, 0},
		{"one above it", 0, []int{2}, one, 0},
		{"the least int", 0, []int{math.MinInt}, one, 0},
		{"the greatest int", 0, []int{math.MaxInt}, one, 0},
		{"-1 behind", 1, []int{0, -1}, two, 1},
		{"the number of buckets, which is the least that none tells", 1, []int{0, 1}, two[:1], 1},
		{"the same behind", 2, []int{0, 1, 2, 3}, four[:3], 3},
		{"the same between", 2, []int{0, 1, 2, 0}, two, 2},
		{"one above the number of buckets", 1, []int{0, 3}, two, 1},
		{"above the least", 1, []int{1, 0}, two, 0},
		{"above the least, the same twice", 1, []int{1, 1}, two, 0},
		{"above the least, behind", 2, []int{0, 2, 1, 3}, four, 1},
		{"above the least by two", 2, []int{0, 3, 1, 2}, four, 1},
		{"above the least, at the last place", 2, []int{0, 1, 0, 3}, four, 3},
		{"above the least, where one is told twice", 2, []int{0, 0, 2, 1}, four, 2},
		{"above the least, where two are told twice", 3, []int{0, 1, 0, 1, 3, 2, 0, 1}, four, 4},
		{"the first one of several", 2, []int{0, 2, -1, 4}, four, 1},
		{"the first one, the other way round", 2, []int{0, 4, -1, 3}, four, 1},
		{"ahead of a bucket that none tells", 1, []int{0, 2}, four, 1},
		{"ahead of wrong buckets", 1, []int{0, -1}, []api.Bucket{bucket(-1), bucket(9, 3, 2, 1)}, 1},
	} {
		askFault(t, c.what, table(c.depth, c.places, c.buckets...), fault(api.ErrForm, c.at))
	}
	for _, at := range []int{0, 1, 2, 3, 1000, 4094, 4095} {
		d := leafy(mostDepth)
		d.Places[at]++
		if at < 4095 {
			d.Places[at+1]--
		}
		askFault(t, fmt.Sprint("the place ", at), d, fault(api.ErrForm, at))
	}
}

// P18.1: all buckets are told, which is asked ahead of what they are.
func TestCheckTold(t *testing.T) {
	for _, c := range []struct {
		what string
		d    api.Dict
	}{
		{"a second bucket", table(0, []int{0}, bucket(0), bucket(0))},
		{"a third bucket", table(1, []int{0, 1}, bucket(1), bucket(1), bucket(1))},
		{"all places tell one", table(1, []int{0, 0}, bucket(1), bucket(1))},
		{"several", table(2, []int{0, 0, 1, 0}, bucket(2), bucket(2), bucket(2), bucket(2), bucket(2))},
		{"ahead of a Depth", table(0, []int{0}, bucket(1), bucket(0))},
		{"ahead of many items", table(0, []int{0}, bucket(0, 1, 2, 3, 4, 5), bucket(0))},
		{"ahead of an item", table(0, []int{0}, bucket(0, 2, 1), bucket(0))},
		{"ahead of no bucket of the Depth", table(1, []int{0, 0}, bucket(0), bucket(0))},
	} {
		askFault(t, c.what, c.d, fault(api.ErrSize, -1))
	}
	for depth := range mostDepth + 1 {
		askFault(t, "one more", with(stem(depth), func(d *api.Dict) { d.Buckets = append(d.Buckets, bucket(depth)) }), fault(api.ErrSize, -1))
		askFault(t, "one more", with(leafy(depth), func(d *api.Dict) { d.Buckets = append(d.Buckets, bucket(0)) }), fault(api.ErrSize, -1))
	}
}

// P18.1: a bucket's Depth is from 0 to the table's.
func TestCheckBucketDepth(t *testing.T) {
	for depth := range mostDepth + 1 {
		for number := 0; number <= depth; number++ {
			for _, wrong := range []int{-1, depth + 1, 12, 13, 62, 63, 64, 65, math.MinInt, math.MaxInt} {
				d := stem(depth)
				if wrong == d.Buckets[number].Depth {
					continue
				}
				d.Buckets[number].Depth = wrong
				same(t, fmt.Sprint(wrong, " of ", depth), dict.Check(d), fault(api.ErrKind, number))
				d.Buckets[number].Items = items(5, 4, 3, 2, 1)
				same(t, fmt.Sprint(wrong, " of ", depth, ", ahead of its items"), dict.Check(d), fault(api.ErrKind, number))
			}
		}
	}
	for _, wrong := range far() {
		if wrong != 0 {
			askFault(t, fmt.Sprint(wrong), table(0, []int{0}, bucket(wrong)), fault(api.ErrKind, 0))
		}
		if wrong != 1 {
			askFault(t, fmt.Sprint(wrong, " ahead"), table(1, []int{0, 1}, bucket(wrong), bucket(1)), fault(api.ErrKind, 0))
			askFault(t, fmt.Sprint(wrong, " behind"), table(1, []int{0, 1}, bucket(1), bucket(wrong)), fault(api.ErrKind, 1))
		}
	}
}

// P18.1: the places that tell a bucket are all those of its bits.
func TestCheckKind(t *testing.T) {
	for _, c := range []struct {
		what   string
		depth  int
		places []int
		depths []int
		at     int
	}{
		{"too few for its Depth", 1, []int{0, 1}, []int{0, 1}, 0},
		{"too few, behind", 1, []int{0, 1}, []int{1, 0}, 1},
		{"too many for its Depth", 1, []int{0, 0}, []int{1}, 0},
		{"too many, of four", 2, []int{0, 0, 0, 0}, []int{2}, 0},
		{"too many, of two", 2, []int{0, 0, 0, 0}, []int{1}, 0},
		{"one too few", 2, []int{0, 1, 0, 0}, []int{0, 2}, 0},
		{"one too few, with a bucket of its bits", 2, []int{0, 1, 2, 1}, []int{1, 1, 2}, 0},
		{"one too few, behind", 2, []int{0, 1, 0, 2}, []int{1, 1, 2}, 1},
		{"as many as there should be, the first ones", 2, []int{0, 0, 1, 1}, []int{1, 1}, 0},
		{"as many as there should be, the outer ones", 2, []int{0, 1, 1, 0}, []int{1, 1}, 0},
		{"as many as there should be, but one", 3, []int{0, 1, 0, 1, 0, 1, 1, 0}, []int{1, 1}, 0},
		{"as many as there should be, in a later one", 3, []int{0, 1, 0, 1, 0, 2, 0, 2}, []int{1, 2, 2}, 1},
		{"the highest bits, not the last ones", 3, []int{0, 0, 1, 1, 2, 2, 3, 3}, []int{2, 2, 2, 2}, 0},
		{"three of four", 2, []int{0, 0, 0, 1}, []int{1, 2}, 0},
		{"three of four, the other way round", 2, []int{0, 1, 1, 1}, []int{2, 1}, 1},
		{"those of its bits, and one more", 2, []int{0, 1, 0, 0}, []int{1, 2}, 0},
	} {
		d := table(c.depth, c.places)
		for _, depth := range c.depths {
			d.Buckets = append(d.Buckets, bucket(depth))
		}
		askFault(t, c.what, d, fault(api.ErrKind, c.at))
		d.Buckets[c.at].Items = items(9, 8, 7, 6, 5)
		askFault(t, c.what+", ahead of its items", d, fault(api.ErrKind, c.at))
	}
}

// P18.1: a Depth that is one too low, or one too high, is told wherever it is.
func TestCheckKindEverywhere(t *testing.T) {
	for depth := 1; depth <= mostDepth; depth++ {
		for number := 0; number <= depth; number++ {
			for _, by := range []int{-1, 1} {
				d := stem(depth)
				d.Buckets[number].Depth += by
				same(t, fmt.Sprint("bucket ", number, " of ", depth, " by ", by), dict.Check(d), fault(api.ErrKind, number))
			}
		}
		d := leafy(depth)
		for _, number := range []int{0, 1, 1<<depth - 2, 1<<depth - 1} {
			same(t, "leafy", dict.Check(with(d, func(d *api.Dict) { d.Buckets[number].Depth-- })), fault(api.ErrKind, number))
		}
	}
}

// P18.1: more than 4 items at a Depth below 12, ahead of what these are.
func TestCheckMany(t *testing.T) {
	for depth := range mostDepth + 1 {
		for number := 0; number <= depth; number++ {
			d := stem(depth)
			one := &d.Buckets[number]
			place := slices.Index(d.Places, number)
			for many := range 8 {
				what := fmt.Sprint(many, " items at ", one.Depth, " of ", depth)
				want := none
				if many > mostItems && one.Depth < mostDepth {
					want = fault(api.ErrMany, number)
				}
				same(t, what, dict.Check(d), want)
				if many > mostItems {
					for _, wrong := range []func(one *api.Bucket){
						func(one *api.Bucket) { one.Items[0].Key ^= 1 << max(0, one.Depth-1) },
						func(one *api.Bucket) { one.Items[many-1] = one.Items[many-2] },
						func(one *api.Bucket) { slices.Reverse(one.Items) },
					} {
						spoilt := dict.Check(with(d, func(d *api.Dict) { wrong(&d.Buckets[number]) }))
						same(t, what+", wrong ones: many", spoilt.Code == api.ErrMany, one.Depth < mostDepth)
						same(t, what+", wrong ones: at", spoilt.At, number)
					}
				}
				one.Items = append(one.Items, items(place+many<<mostDepth)...)
			}
		}
	}
	askFault(t, "5 items", flat(1, 2, 3, 4, 5), fault(api.ErrMany, 0))
	askFault(t, "5 items that fall", flat(5, 4, 3, 2, 1), fault(api.ErrMany, 0))
	askFault(t, "5 items behind", table(1, []int{0, 1}, bucket(1), bucket(1, 1, 3, 5, 7, 9)), fault(api.ErrMany, 1))
	askFault(t, "5 items of other bits", table(1, []int{0, 1}, bucket(1, 1, 3, 5, 7, 9), bucket(1)), fault(api.ErrMany, 0))
	askFault(t, "MaxList items", with(flat(), func(d *api.Dict) { d.Buckets[0].Items = make([]api.Item, api.MaxList) }), fault(api.ErrMany, 0))
	askFault(t, "more than MaxList items", with(flat(), func(d *api.Dict) { d.Buckets[0].Items = make([]api.Item, api.MaxList+1) }), fault(api.ErrMany, 0))
}

// P18.1: keys are the same as the places in the bucket's bits, and each is above the one ahead.
func TestCheckItems(t *testing.T) {
	for _, c := range []struct {
		what string
		d    api.Dict
		want api.Fault
	}{
		{"another last bit", table(1, []int{0, 1}, bucket(1, 1), bucket(1)), fault(api.ErrState, 0)},
		{"another last bit, behind", table(1, []int{0, 1}, bucket(1), bucket(1, 1, 2)), fault(api.ErrState, 1)},
		{"another last bit, below 0", table(1, []int{0, 1}, bucket(1, -1), bucket(1)), fault(api.ErrState, 0)},
		{"another last bit, the least int", table(1, []int{0, 1}, bucket(1), bucket(1, math.MinInt)), fault(api.ErrState, 1)},
		{"another last bit, the greatest int", table(1, []int{0, 1}, bucket(1, math.MaxInt), bucket(1)), fault(api.ErrState, 0)},
		{"the highest of its bits", table(2, []int{0, 1, 2, 3}, bucket(2, 2), bucket(2), bucket(2), bucket(2)), fault(api.ErrState, 0)},
		{"the highest of its bits, behind", table(2, []int{0, 1, 2, 3}, bucket(2), bucket(2), bucket(2), bucket(2, 1)), fault(api.ErrState, 3)},
		{"a bit of the table's that is not its own", table(2, []int{0, 1, 2, 1}, bucket(2), bucket(1, 1, 3), bucket(2)), none},
		{"its bit, not the table's", table(2, []int{0, 1, 2, 1}, bucket(2), bucket(1, 1, 2), bucket(2)), fault(api.ErrState, 1)},
		{"the first bit that is not asked", table(2, []int{0, 1, 2, 3}, bucket(2, 4), bucket(2), bucket(2, 2, 6), bucket(2)), none},
		{"twice", flat(5, 5), fault(api.ErrTwice, 0)},
		{"twice with other values", table(0, []int{0}, api.Bucket{Items: []api.Item{{Key: 5, Value: 1}, {Key: 5, Value: 2}}}), fault(api.ErrTwice, 0)},
		{"falling", flat(5, 4), fault(api.ErrTwice, 0)},
		{"falling to below 0", flat(0, -1), fault(api.ErrTwice, 0)},
		{"from the greatest to the least", flat(math.MaxInt, math.MinInt), fault(api.ErrTwice, 0)},
		{"twice, the least int", flat(math.MinInt, math.MinInt), fault(api.ErrTwice, 0)},
		{"twice, 0", flat(0, 0), fault(api.ErrTwice, 0)},
		{"twice, the last two", flat(1, 2, 3, 3), fault(api.ErrTwice, 0)},
		{"above the first, not above the one ahead", flat(1, 5, 3, 6), fault(api.ErrTwice, 0)},
		{"falling, behind", table(1, []int{0, 1}, bucket(1, 0, 2), bucket(1, 3, 1)), fault(api.ErrTwice, 1)},
		{"values that fall", table(0, []int{0}, api.Bucket{Items: []api.Item{{Key: 1, Value: 9}, {Key: 2, Value: 9}, {Key: 3, Value: -9}}}), none},
		{"keys of a later bucket that are below", table(1, []int{0, 1}, bucket(1, 8), bucket(1, 1)), none},
		{"of one item a state first", table(1, []int{0, 1}, bucket(1, 4, 3), bucket(1)), fault(api.ErrState, 0)},
		{"an earlier state", table(1, []int{0, 1}, bucket(1, 3, 2, 0), bucket(1)), fault(api.ErrState, 0)},
		{"an earlier twice", table(1, []int{0, 1}, bucket(1, 2, 0, 3), bucket(1)), fault(api.ErrTwice, 0)},
		{"an earlier twice, and the same twice", table(1, []int{0, 1}, bucket(1), bucket(1, 3, 3, 4, 4)), fault(api.ErrTwice, 1)},
		{"a state alone, the last item", table(1, []int{0, 1}, bucket(1, 0, 2, 4, 7), bucket(1)), fault(api.ErrState, 0)},
	} {
		if c.want == none {
			askRight(t, c.what, c.d)
		} else {
			askFault(t, c.what, c.d, c.want)
		}
	}
}

// P18.1: each bit of a key is asked that is the bucket's, and no other.
func TestCheckBits(t *testing.T) {
	for depth := range mostDepth + 1 {
		d := stem(depth)
		for number, one := range d.Buckets {
			for bits := range 64 {
				for _, key := range []int{slices.Index(d.Places, number), slices.Index(d.Places, number) - 1<<20} {
					d.Buckets[number].Items = items(key ^ 1<<bits)
					want := none
					if bits < one.Depth {
						want = fault(api.ErrState, number)
					}
					same(t, fmt.Sprint("bit ", bits, " at ", one.Depth, " of ", depth), dict.Check(d), want)
				}
			}
			d.Buckets[number].Items = nil
		}
	}
}

// P18.1: MaxList items, and what is told ahead of too many.
func TestCheckMuch(t *testing.T) {
	askRight(t, "MaxList - 1", deep(api.MaxList-1))
	askRight(t, "MaxList", deep(api.MaxList))
	askFault(t, "MaxList + 1", deep(api.MaxList+1), fault(api.ErrMuch, 0))
	askFault(t, "MaxList + 2", deep(api.MaxList+2), fault(api.ErrMuch, 0))
	for _, at := range []int{1, 4, 5, 100, api.MaxList - 1, api.MaxList} {
		state := with(deep(api.MaxList+1), func(d *api.Dict) { d.Buckets[0].Items[at].Key |= 1 << 11 })
		askFault(t, fmt.Sprint("a state at ", at), state, fault(api.ErrState, 0))
		twice := with(deep(api.MaxList+1), func(d *api.Dict) { d.Buckets[0].Items[at].Key = d.Buckets[0].Items[at-1].Key })
		askFault(t, fmt.Sprint("twice at ", at), twice, fault(api.ErrTwice, 0))
	}
	last := stem(mostDepth)
	for n := range api.MaxList + 1 {
		last.Buckets[12].Items = append(last.Buckets[12].Items, items(2048+n<<mostDepth)...)
	}
	askFault(t, "the last bucket", last, fault(api.ErrMuch, 12))
	last.Buckets[12].Items = last.Buckets[12].Items[:api.MaxList]
	askRight(t, "the last bucket, MaxList", last)
	last.Buckets[0].Items = deep(api.MaxList).Buckets[0].Items
	askRight(t, "two buckets of MaxList", last)
	last.Buckets[0].Items = deep(api.MaxList + 1).Buckets[0].Items
	last.Buckets[12].Depth = 11
	askFault(t, "ahead of a later bucket", last, fault(api.ErrMuch, 0))
}

// P18.1: a table above Depth 0 has a bucket of its Depth; all else is told ahead of that.
func TestCheckFalse(t *testing.T) {
	for depth := range mostDepth {
		for _, d := range []api.Dict{stem(depth), leafy(depth)} {
			for deeper := depth + 1; deeper <= min(mostDepth, depth+2); deeper++ {
				d.Depth, d.Places = deeper, slices.Concat(d.Places, d.Places)
				what := fmt.Sprint(depth, " as ", deeper)
				askFault(t, what, d, fault(api.ErrFalse, -1))
				last := len(d.Buckets) - 1
				same(t, what+": kind", dict.Check(with(d, func(d *api.Dict) { d.Buckets[last].Depth++ })), fault(api.ErrKind, last))
				same(t, what+": many", dict.Check(with(d, func(d *api.Dict) { d.Buckets[last].Items = items(5, 4, 3, 2, 1) })), fault(api.ErrMany, last))
				same(t, what+": twice", dict.Check(with(d, func(d *api.Dict) {
					place := slices.Index(d.Places, last)
					d.Buckets[last].Items = items(place, place)
				})), fault(api.ErrTwice, last))
			}
		}
	}
	askFault(t, "one bucket, two places", table(1, []int{0, 0}, bucket(0)), fault(api.ErrFalse, -1))
	askFault(t, "one bucket, 4 places, items", table(2, []int{0, 0, 0, 0}, bucket(0, 1, 2, 3, 4)), fault(api.ErrFalse, -1))
	askRight(t, "Depth 0", table(0, []int{0}, bucket(0)))
}

// P18.1: bucket by bucket: what an earlier one has is told ahead of what a later one has.
func TestCheckOrder(t *testing.T) {
	wrong := []struct {
		what string
		code int
		do   func(one *api.Bucket, place int)
	}{
		{"kind", api.ErrKind, func(one *api.Bucket, place int) { one.Depth-- }},
		{"many", api.ErrMany, func(one *api.Bucket, place int) { one.Items = items(place, place+4, place+8, place+12, place+16) }},
		{"state", api.ErrState, func(one *api.Bucket, place int) { one.Items = items(place + 1) }},
		{"twice", api.ErrTwice, func(one *api.Bucket, place int) { one.Items = items(place, place) }},
	}
	for _, one := range wrong {
		for _, other := range wrong {
			for first := range 4 {
				d := leafy(2)
				one.do(&d.Buckets[first], first)
				askFault(t, one.what, d, fault(one.code, first))
				for later := first + 1; later < 4; later++ {
					both := with(d, func(d *api.Dict) { other.do(&d.Buckets[later], later) })
					askFault(t, one.what+" ahead of "+other.what, both, fault(one.code, first))
				}
			}
		}
	}
}

// P18.1: one fault after the other, as they are named, in one table.
func TestCheckAllFaults(t *testing.T) {
	d := table(13, []int{0, 2, 0}, bucket(3, 5, 4, 3, 3, 1), bucket(1, 1, 1), bucket(9))
	askFault(t, "range", d, fault(api.ErrRange, -1))
	d.Depth = 2
	askFault(t, "size of the places", d, fault(api.ErrSize, -1))
	d.Places = []int{0, 2, 0, 1}
	askFault(t, "form", d, fault(api.ErrForm, 1))
	d.Places = []int{0, 1, 0, 1}
	askFault(t, "size of the buckets", d, fault(api.ErrSize, -1))
	d.Buckets = d.Buckets[:2]
	askFault(t, "kind", d, fault(api.ErrKind, 0))
	d.Buckets[0].Depth = 1
	askFault(t, "many", d, fault(api.ErrMany, 0))
	d.Buckets[0] = bucket(1, 5, 4, 4)
	askFault(t, "state", d, fault(api.ErrState, 0))
	d.Buckets[0] = bucket(1, 4, 4)
	askFault(t, "twice", d, fault(api.ErrTwice, 0))
	d.Buckets[0] = bucket(1, 4)
	askFault(t, "twice, of the next one", d, fault(api.ErrTwice, 1))
	d.Buckets[1] = bucket(1, 1)
	askFault(t, "false", d, fault(api.ErrFalse, -1))
	d.Depth, d.Places = 1, d.Places[:2]
	askRight(t, "nothing", d)
}
