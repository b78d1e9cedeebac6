package clock_test

import (
	"fmt"
	"slices"
	"testing"

	"taskmill/api"
)

const (
	most = api.MaxList
	much = api.MaxNum
)

func fault(code, at int) api.Fault { return api.Fault{Code: code, At: at} }

var none = api.Fault{}

// clockOf is a clock with alarms, alarm an alarm, and once an alarm without a period.
func clockOf(now, next int, list ...api.Alarm) api.Clock {
	return api.Clock{Now: now, Next: next, List: list}
}
func alarm(id, when, period, seq int) api.Alarm {
	return api.Alarm{Id: id, When: when, Period: period, Seq: seq}
}
func once(id, when, seq int) api.Alarm { return alarm(id, when, 0, seq) }

func told(parts ...any) string { return fmt.Sprintln(parts...) }

// many are n alarms that go off at when, and then with the period: their Ids are first, first + 1, and so on, their Seqs one less.
func many(first, n, when, period int) []api.Alarm {
	list := make([]api.Alarm, n)
	for i := range list {
		list[i] = alarm(first+i, when, period, first+i-1)
	}
	return list
}

// plus is the new list with more behind it, put the new list with another one at the place i.
func plus[E any](list []E, behind ...E) []E { return slices.Concat(list, behind) }
func put[E any](list []E, i int, other E) []E {
	return slices.Concat(list[:i], []E{other}, list[i+1:])
}

// same holds two things against each other as they are told: nil and empty lists are the same.
func same(t *testing.T, what string, got, want any) {
	t.Helper()
	g, w := fmt.Sprint(got), fmt.Sprint(want)
	if g == w {
		return
	}
	if len(g)+len(w) > 2000 {
		t.Errorf("%s: not as wanted (%d and %d bytes)", what, len(g), len(w))
		return
	}
	t.Errorf("%s: got %v, want %v", what, g, w)
}
