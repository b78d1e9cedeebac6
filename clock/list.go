package clock

import (
	"slices"
	"sort"

	"taskmill/api"
)

// set is which numbers were seen.
type set map[int]struct{}

func (s set) has(n int) bool {
	_, seen := s[n]
	return seen
}

func (s set) add(n int) {
	s[n] = struct{}{}
}

// firstWrong answers what is wrong with the first alarm of which check tells another code than OK.
func firstWrong(list []api.Alarm, check func(i int, one api.Alarm) int) api.Fault {
	for i, one := range list {
		if code := check(i, one); code != api.OK {
			return api.Fault{Code: code, At: i + 1}
		}
	}
	return api.Fault{}
}

// goesAhead: does an alarm go off ahead of another?
func goesAhead(one, other api.Alarm) bool {
	return one.When < other.When || one.When == other.When && one.Seq < other.Seq
}

// placeOf answers how many alarms of a list go off ahead of another one.
func placeOf(list []api.Alarm, one api.Alarm) int {
	return sort.Search(len(list), func(i int) bool { return goesAhead(one, list[i]) })
}

// without answers the alarms of a list but the alarm id, in new memory.
func without(list []api.Alarm, id int) []api.Alarm {
	return slices.DeleteFunc(fresh(list), func(one api.Alarm) bool { return one.Id == id })
}

// with puts an alarm at its place in a list whose memory is the call's own.
func with(list []api.Alarm, one api.Alarm) []api.Alarm {
	return slices.Insert(list, placeOf(list, one), one)
}

// putOff has an alarm that is later than the first one come in its stead, and takes it to its place,
// in a list whose memory is the call's own: only those that are ahead of it then are moved.
func putOff(list []api.Alarm, one api.Alarm) {
	place := placeOf(list[1:], one)
	copy(list, list[1:place+1])
	list[place] = one
}

// fresh copies a list into memory of its own.
func fresh(list []api.Alarm) []api.Alarm {
	return append([]api.Alarm{}, list...)
}
