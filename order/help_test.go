package order_test

import (
	"fmt"
	"math"
	"slices"
	"strconv"
	"strings"
	"testing"

	"taskmill/api"
	"taskmill/order"
)

// Limits that the chapter names, and which package api does not.
const (
	mostEvents = 2000
	mostPipes  = 20
	mostHolds  = 100
	mostObj    = 20
)

func fault(code, at int) api.Fault { return api.Fault{Code: code, At: at} }

var none = api.Fault{}

// opNames are those of the ops that an event may have.
func opNames() map[string]int {
	return map[string]int{
		"print": api.OpPrint, "end": api.OpEnd, "yield": api.OpYield, "go": api.OpGo, "load": api.OpLoad, "store": api.OpStore,
		"send": api.OpSend, "get": api.OpGet, "shut": api.OpShut, "lock": api.OpLock, "unlock": api.OpUnlock,
		"count": api.OpCount, "wait": api.OpWait, "sleep": api.OpSleep, "panic": api.OpPanic,
	}
}

// events is a trace, with `; ` between its events: the task, the op's name, Obj and Value; what is not written is 0.
func events(text string) []api.Event {
	var trace []api.Event
	for _, one := range strings.Split(text, "; ") {
		words := strings.Fields(one)
		if len(words) == 0 {
			continue
		}
		op, known := opNames()[words[1]]
		if !known {
			panic(one)
		}
		numbers := [3]int{}
		for at, word := range slices.Delete(slices.Clone(words), 1, 2) {
			n, err := strconv.Atoi(word)
			if err != nil {
				panic(one)
			}
			numbers[at] = n
		}
		trace = append(trace, api.Event{Task: numbers[0], Op: op, Obj: numbers[1], Value: numbers[2]})
	}
	return trace
}

// far are numbers that no part of an event, and no pipe, may be, where it is told what it may be.
func far() []int {
	return []int{-1, -2, math.MinInt, math.MinInt + 1, mostHolds + 1, 1 << 32, 1<<32 + 1, math.MaxInt}
}

// prints are so many events that are edges' ends by their Task alone.
func prints(many int) []api.Event {
	return slices.Repeat([]api.Event{{Task: 1, Op: api.OpPrint}}, many)
}

// happens tells whether one event of a right trace happens before another one.
func happens(t *testing.T, trace []api.Event, pipes []int, i, k int) bool {
	t.Helper()
	is, f := order.Before(trace, pipes, i, k)
	if f != none {
		t.Fatalf("%d %d: %v", i, k, f)
	}
	return is
}

// pairsOf are all pairs of events of which the first happens before the second, as Before tells them: `0-1 0-2`.
func pairsOf(t *testing.T, trace []api.Event, pipes []int) string {
	t.Helper()
	var pairs []string
	for i := range trace {
		for k := range trace {
			if happens(t, trace, pipes, i, k) {
				pairs = append(pairs, fmt.Sprint(i, "-", k))
			}
		}
	}
	return strings.Join(pairs, " ")
}

// clocksTold are the clocks of a trace that is right.
func clocksTold(t *testing.T, trace []api.Event, pipes []int) [][]int {
	t.Helper()
	list, f := order.Clocks(trace, pipes)
	if f != none {
		t.Fatalf("%v", f)
	}
	return list
}

// ordered is a trace, its pipes, and all pairs of which the first happens before the second.
type ordered struct {
	what  string
	trace string
	pipes []int
	want  string
}

// askOrders asks Before for the pairs, and Clocks for as many as they make.
func askOrders(t *testing.T, list []ordered) {
	t.Helper()
	for _, o := range list {
		trace := events(o.trace)
		same(t, o.what+": before", pairsOf(t, trace, o.pipes), o.want)
		same(t, o.what+": clocks", clocksTold(t, trace, o.pipes), countPairs(trace, strings.Fields(o.want)))
	}
}

// countPairs are the clocks of a trace of which these are the pairs.
func countPairs(trace []api.Event, pairs []string) [][]int {
	clocks := make([][]int, len(trace))
	for k, e := range trace {
		clocks[k] = make([]int, greatest(trace))
		clocks[k][e.Task-1] = 1
		for i, other := range trace {
			if slices.Contains(pairs, fmt.Sprint(i, "-", k)) {
				clocks[k][other.Task-1]++
			}
		}
	}
	return clocks
}

// greatest is the greatest number of a task in a trace.
func greatest(trace []api.Event) int {
	var tasks []int
	for _, e := range trace {
		tasks = append(tasks, e.Task)
		if e.Op == api.OpGo {
			tasks = append(tasks, e.Value)
		}
	}
	if len(tasks) == 0 {
		return 0
	}
	return slices.Max(tasks)
}

func told(parts ...any) string { return fmt.Sprintln(parts...) }

// same holds two things against each other as they are told: nil and empty lists are the same.
func same(t *testing.T, what string, got, want any) {
	t.Helper()
	if g, w := fmt.Sprint(got), fmt.Sprint(want); g != w {
		t.Errorf("%s:\n got %.1500s\nwant %.1500s", what, g, w)
	}
}
