package cell_test

import (
	"fmt"
	"math"
	"math/rand"
	"testing"

	"taskmill/api"
)

func load(at int) api.Op          { return api.Op{Kind: api.Load, At: at} }
func store(at, a int) api.Op      { return api.Op{Kind: api.Store, At: at, A: a} }
func add(at, a int) api.Op        { return api.Op{Kind: api.Add, At: at, A: a} }
func swap(at, a int) api.Op       { return api.Op{Kind: api.Swap, At: at, A: a} }
func cas(at, old, new int) api.Op { return api.Op{Kind: api.Cas, At: at, A: old, B: new} }

func fault(code, at int) api.Fault { return api.Fault{Code: code, At: at} }

var none = api.Fault{}

// same holds two things against each other as they are told: nil and empty lists are the same.
func same(t *testing.T, what string, got, want any) {
	t.Helper()
	if fmt.Sprint(got) != fmt.Sprint(want) {
		t.Errorf("%s: got %v, want %v", what, got, want)
	}
}

func loads(n int) []api.Op {
	ops := make([]api.Op, n)
	for i := range ops {
		ops[i] = load(0)
	}
	return ops
}

// anyOp is a right op to one of so many cells, of small numbers, so that Cas often finds what it asks for.
func anyOp(r *rand.Rand, cells int) api.Op {
	at, a := r.Intn(cells), r.Intn(3)
	switch r.Intn(5) {
	case 0:
		return load(at)
	case 1:
		return store(at, a)
	case 2:
		return add(at, a)
	case 3:
		return swap(at, a)
	}
	return cas(at, a, r.Intn(3))
}

func anyOps(r *rand.Rand, n, cells int) []api.Op {
	ops := make([]api.Op, n)
	for i := range ops {
		ops[i] = anyOp(r, cells)
	}
	return ops
}

// wildNumber is mostly a small one, at times one of the farthest.
func wildNumber(r *rand.Rand) int {
	far := []int{math.MinInt, math.MaxInt, -1, 1 << 32}
	if r.Intn(8) == 0 {
		return far[r.Intn(len(far))]
	}
	return r.Intn(6)
}

func wildOps(r *rand.Rand, n int) []api.Op {
	ops := make([]api.Op, n)
	for i := range ops {
		ops[i] = api.Op{Kind: wildNumber(r), At: r.Intn(4) - 1, A: wildNumber(r) * r.Intn(2), B: wildNumber(r) * r.Intn(2)}
	}
	return ops
}
