package cell

import (
	"slices"
	"strconv"

	"taskmill/api"
)

// Bounds of Ends alone: the orders grow too fast for those of package api.
const (
	endsTasks = 4
	endsOps   = 12
)

// spot is how far the tasks have come: how many ops each has done, and the memory then.
type spot struct {
	done []int
	mem  []int
}

// Ends answers all memories that can be left when all tasks have done all, each once, sorted by the first cell that differs.
func Ends(mem []int, tasks [][]api.Op) ([][]int, api.Fault) {
	if f := checkEnds(mem, tasks); f.Code != api.OK {
		return nil, f
	}
	byKind := deeds()
	spots := []spot{{done: make([]int, len(tasks)), mem: fresh(mem)}}
	for range countOps(tasks) {
		spots = onward(byKind, spots, tasks)
	}
	ends := make([][]int, 0, len(spots))
	for _, s := range spots {
		ends = append(ends, s.mem)
	}
	slices.SortFunc(ends, slices.Compare[[]int])
	return ends, api.Fault{}
}

func checkEnds(mem []int, tasks [][]api.Op) api.Fault {
	if len(tasks) > endsTasks {
		return api.Fault{Code: api.ErrMany}
	}
	if f := checkTasks(mem, tasks); f.Code != api.OK {
		return f
	}
	if countOps(tasks) > endsOps {
		return api.Fault{Code: api.ErrMany}
	}
	return api.Fault{}
}

func countOps(tasks [][]api.Op) int {
	sum := 0
	for _, ops := range tasks {
		sum += len(ops)
	}
	return sum
}

// onward answers the spots that one more op leads to, each once: many orders meet in one spot, and going on from it once is enough.
func onward(byKind map[int]deed, spots []spot, tasks [][]api.Op) []spot {
	seen := map[string]struct{}{}
	var next []spot
	for _, s := range spots {
		for t, ops := range tasks {
			if s.done[t] == len(ops) {
				continue
			}
			n := spot{done: fresh(s.done), mem: fresh(s.mem)}
			do(byKind, n.mem, ops[n.done[t]])
			n.done[t]++
			key := n.key()
			if _, twice := seen[key]; !twice {
				seen[key] = struct{}{}
				next = append(next, n)
			}
		}
	}
	return next
}

// key is the same for two spots of one call only if they are alike.
func (s spot) key() string {
	var text []byte
	for _, list := range [][]int{s.done, s.mem} {
		for _, n := range list {
			text = strconv.AppendInt(text, int64(n), 10)
			text = append(text, ' ')
		}
	}
	return string(text)
}
