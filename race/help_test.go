package race_test

import (
	"fmt"
	"math"
	"slices"
	"strconv"
	"strings"
	"testing"

	"taskmill/api"
	"taskmill/race"
)

// Limits that the chapters name, and which package api does not.
const (
	mostEvents = 2000
	mostPipes  = 20
	mostHolds  = 100
	mostObj    = 20
)

func fault(code, at int) api.Fault { return api.Fault{Code: code, At: at} }

var none = api.Fault{}

// opNames are those of the ops that an event may have.
func opNames() map[string]int {
	return map[string]int{
		"print": api.OpPrint, "end": api.OpEnd, "yield": api.OpYield, "go": api.OpGo, "load": api.OpLoad, "store": api.OpStore,
		"send": api.OpSend, "get": api.OpGet, "shut": api.OpShut, "lock": api.OpLock, "unlock": api.OpUnlock,
		"count": api.OpCount, "wait": api.OpWait, "sleep": api.OpSleep, "panic": api.OpPanic,
	}
}

// events is a trace, with `; ` between its events: the task, the op's name, Obj and Value; what is not written is 0.
func events(text string) []api.Event {
	var trace []api.Event
	for _, one := range strings.Split(text, "; ") {
		words := strings.Fields(one)
		if len(words) == 0 {
			continue
		}
		op, known := opNames()[words[1]]
		if !known {
			panic(one)
		}
		numbers := [3]int{}
		for at, word := range slices.Delete(slices.Clone(words), 1, 2) {
			n, err := strconv.Atoi(word)
			if err != nil {
				panic(one)
			}
			numbers[at] = n
		}
		trace = append(trace, api.Event{Task: numbers[0], Op: op, Obj: numbers[1], Value: numbers[2]})
	}
	return trace
}

// far are numbers that no part of an event, and no pipe, may be, where it is told what it may be.
func far() []int {
	return []int{-1, -2, math.MinInt, math.MinInt + 1, mostHolds + 1, 1 << 32, 1<<32 + 1, math.MaxInt}
}

// many are so many events, all the same.
func many(n int, one string) []api.Event {
	return slices.Repeat(events(one), n)
}

// allTold are the races of a right trace, told: `0-1 0-2`.
func allTold(t *testing.T, trace []api.Event, pipes []int) string {
	t.Helper()
	list, f := race.All(trace, pipes)
	if f != none {
		t.Fatalf("all: %v", f)
	}
	var pairs []string
	for _, pair := range list {
		pairs = append(pairs, fmt.Sprint(pair[0], "-", pair[1]))
	}
	return strings.Join(pairs, " ")
}

// guardsTold are the guards of a right trace.
func guardsTold(t *testing.T, trace []api.Event, pipes []int) [][]int {
	t.Helper()
	list, f := race.Guards(trace, pipes)
	if f != none {
		t.Fatalf("guards: %v", f)
	}
	return list
}

// raced is a trace, its pipes, and its races.
type raced struct {
	what  string
	trace string
	pipes []int
	want  string
}

// askRaces asks All for the races, and First for the later event of the first one.
func askRaces(t *testing.T, list []raced) {
	t.Helper()
	for _, r := range list {
		trace := events(r.trace)
		same(t, r.what+": all", allTold(t, trace, r.pipes), r.want)
		askFirst(t, r.what, trace, r.pipes, laterOfFirst(r.want))
	}
}

// laterOfFirst is the later event of the first pair, or -1.
func laterOfFirst(pairs string) int {
	if pairs == "" {
		return -1
	}
	_, later, _ := strings.Cut(strings.Fields(pairs)[0], "-")
	n, err := strconv.Atoi(later)
	if err != nil {
		panic(pairs)
	}
	return n
}

// askFirst asks First for an event, or, with -1, for none.
func askFirst(t *testing.T, what string, trace []api.Event, pipes []int, want int) {
	t.Helper()
	got, f := race.First(trace, pipes)
	if want < 0 {
		same(t, what+": first", told(got, f), told(0, fault(api.ErrNone, 0)))
	} else {
		same(t, what+": first", told(got, f), told(want, none))
	}
}

func told(parts ...any) string { return fmt.Sprintln(parts...) }

// same holds two things against each other as they are told: nil and empty lists are the same.
func same(t *testing.T, what string, got, want any) {
	t.Helper()
	if g, w := fmt.Sprint(got), fmt.Sprint(want); g != w {
		t.Errorf("%s:\n got %.1500s\nwant %.1500s", what, g, w)
	}
}
