package dict

import "taskmill/api"

// placesOf answers how many places so many bits tell apart.
func placesOf(bits int) int {
	return 1 << bits
}

// last answers the last bits of a number.
func last(number, bits int) int {
	return number & (1<<bits - 1)
}

// bucketOf answers which bucket may have a key.
func bucketOf(d api.Dict, key int) int {
	return d.Places[last(key, d.Depth)]
}

// tellers are the places that tell a bucket.
type tellers struct {
	first  int // the first one
	differ int // the bits in which any other one is not the same as the first
	many   int
}

// areAll: are they all places of a table that are the same as the first one in their last bits?
func (t tellers) areAll(bits, depth int) bool {
	// If they are the same there, and as many as can be, no other place is.
	return last(t.differ, bits) == 0 && t.many == placesOf(depth-bits)
}

// tellersOf answers the places that tell each bucket, or the first place that is not in its form (-1: there is none).
func tellersOf(d api.Dict) (map[int]tellers, int) {
	of := map[int]tellers{}
	for place, number := range d.Places {
		// The buckets that were told so far are the first ones, so that the least other one has as number how many they are.
		if number < 0 || number >= len(d.Buckets) || number > len(of) {
			return nil, place
		}
		t, seen := of[number]
		if !seen {
			t.first = place
		}
		t.differ |= place ^ t.first
		t.many++
		of[number] = t
	}
	return of, -1
}

// numbered answers a table whose buckets are numbered as its places come to them first.
func numbered(d api.Dict) api.Dict {
	then := api.Dict{Depth: d.Depth}
	numbers := map[int]int{}
	for _, old := range d.Places {
		number, seen := numbers[old]
		if !seen {
			number = len(numbers)
			numbers[old] = number
			then.Buckets = append(then.Buckets, d.Buckets[old])
		}
		then.Places = append(then.Places, number)
	}
	return then
}
