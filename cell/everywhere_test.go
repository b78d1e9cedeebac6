package cell_test

import (
	"fmt"
	"math/rand"
	"slices"
	"testing"

	"taskmill/api"
	"taskmill/cell"
)

// What follows: ops on different cells may change places, and so may what they tell.
func TestOpsOnDifferentCellsMayChangePlaces(t *testing.T) {
	r := rand.New(rand.NewSource(2))
	for range 2000 {
		mem := []int{r.Intn(3), r.Intn(3), r.Intn(3)}
		ops := anyOps(r, 2+r.Intn(6), len(mem))
		i := r.Intn(len(ops) - 1)
		if ops[i].At == ops[i+1].At {
			continue
		}
		then, told, _ := cell.Run(mem, ops)
		ops[i], ops[i+1] = ops[i+1], ops[i]
		then2, told2, _ := cell.Run(mem, ops)
		told2[i], told2[i+1] = told2[i+1], told2[i]
		same(t, "memory", then2, then)
		same(t, "told", told2, told)
	}
	ends, _ := cell.Ends([]int{0, 0}, [][]api.Op{{store(0, 1), add(0, 1)}, {swap(1, 3), cas(1, 3, 4)}})
	same(t, "tasks on different cells", ends, "[[2 4]]")
}

// What follows: Adds on one cell may change places.
func TestAddsMayChangePlaces(t *testing.T) {
	r := rand.New(rand.NewSource(3))
	for range 500 {
		ops := make([]api.Op, r.Intn(8))
		for i := range ops {
			ops[i] = add(0, int(r.Uint64()))
		}
		then, _, _ := cell.Run([]int{1}, ops)
		r.Shuffle(len(ops), func(i, j int) { ops[i], ops[j] = ops[j], ops[i] })
		then2, _, _ := cell.Run([]int{1}, ops)
		same(t, "memory", then2, then)
	}
	ends, _ := cell.Ends([]int{0}, [][]api.Op{{add(0, 1), add(0, 2)}, {add(0, 4)}, {add(0, -8)}})
	same(t, "tasks that add", ends, "[[-1]]")
}

// P1: no call panics whatever it is given, each answers the same again, and with a fault there is nothing else.
func TestWildInputs(t *testing.T) {
	r := rand.New(rand.NewSource(4))
	for range 5000 {
		mem := make([]int, r.Intn(4))
		for i := range mem {
			mem[i] = wildNumber(r)
		}
		tasks := make([][]api.Op, r.Intn(6))
		for i := range tasks {
			tasks[i] = wildOps(r, r.Intn(3))
		}
		picks := make([]int, r.Intn(6))
		for i := range picks {
			picks[i] = r.Intn(6) - 1
		}
		same(t, "again", tellAll(t, mem, tasks, picks), tellAll(t, mem, tasks, picks))
	}
}

func tellAll(t *testing.T, mem []int, tasks [][]api.Op, picks []int) string {
	then, told, f := cell.Mix(mem, tasks, picks)
	if f != none && (len(then) != 0 || len(told) != 0) {
		t.Errorf("mix: beside %v stand %v %v", f, then, told)
	}
	text := fmt.Sprintln(then, told, f)
	ends, f := cell.Ends(mem, tasks)
	if f != none && len(ends) != 0 || f == none && len(ends) == 0 {
		t.Errorf("ends: %v with %v", f, ends)
	}
	text += fmt.Sprintln(ends, f)
	for _, ops := range tasks {
		then, told, f := cell.Run(mem, ops)
		if f != none && (len(then) != 0 || len(told) != 0) {
			t.Errorf("run: beside %v stand %v %v", f, then, told)
		}
		if f == none && (len(then) != len(mem) || len(told) != len(ops)) {
			t.Errorf("run: %d cells of %d, %d told by %d", len(then), len(mem), len(told), len(ops))
		}
		same(t, "what Check says", f, cell.Check(mem, ops))
		text += fmt.Sprintln(then, told, f)
	}
	return text
}

// roomy lists have more behind their length, which nobody may read or write.
func roomy[T any](list []T, behind T) (short, whole []T) {
	whole = append(slices.Clone(list), behind, behind, behind)
	return whole[:len(list)], whole
}

// Lists that are handed in are only read, and what lies behind their length is neither read nor written.
func TestListsAreOnlyRead(t *testing.T) {
	mem, wholeMem := roomy([]int{1, 2}, 77)
	first, wholeFirst := roomy([]api.Op{add(0, 1), swap(1, 5)}, api.Op{Kind: 99})
	second, wholeSecond := roomy([]api.Op{cas(0, 2, 8)}, api.Op{Kind: 99})
	tasks, wholeTasks := roomy([][]api.Op{first, second}, []api.Op{{Kind: 99}})
	picks, wholePicks := roomy([]int{0, 0, 0, 1, 1}, 88)
	before := fmt.Sprint(wholeMem, wholeFirst, wholeSecond, wholeTasks, wholePicks)

	same(t, "check", cell.Check(mem, first), none)
	then, told, f := cell.Run(mem, first)
	same(t, "run", fmt.Sprint(then, told, f), "[2 5] [2 2] {0 0}")
	then, mixed, f := cell.Mix(mem, tasks, picks)
	same(t, "mix", fmt.Sprint(then, mixed, f), "[8 5] [[2 2] [1]] {0 0}")
	ends, f := cell.Ends(mem, tasks)
	same(t, "ends", fmt.Sprint(ends, f), "[[2 5] [8 5]] {0 0}")
	same(t, "what was handed in", fmt.Sprint(wholeMem, wholeFirst, wholeSecond, wholeTasks, wholePicks), before)
}

// scribble writes over all the memory that a list has, also behind its length.
func scribble(list []int) {
	list = list[:cap(list)]
	for i := range list {
		list[i] = 4444
	}
}

// What is answered is new memory, and no two lists of one answer share any.
func TestAnswersAreNewMemory(t *testing.T) {
	mem, wholeMem := roomy([]int{1, 2}, 77)
	tasks := [][]api.Op{{load(0), store(0, 3)}, {load(0), swap(0, 4)}, {load(1)}}
	answers := map[string]func() [][]int{
		"run": func() [][]int {
			then, told, _ := cell.Run(mem, tasks[0])
			return [][]int{then, told}
		},
		"run without ops": func() [][]int {
			then, told, _ := cell.Run(mem, nil)
			return [][]int{then, told}
		},
		"mix": func() [][]int {
			then, told, _ := cell.Mix(mem, tasks, []int{0, 1, 2, 0, 1})
			return append(told, then)
		},
		"mix without tasks": func() [][]int {
			then, _, _ := cell.Mix(mem, nil, nil)
			return [][]int{then}
		},
		"ends": func() [][]int {
			ends, _ := cell.Ends(mem, tasks)
			return ends
		},
		"ends without tasks": func() [][]int {
			ends, _ := cell.Ends(mem, nil)
			return ends
		},
	}
	for what, answer := range answers {
		want := fmt.Sprint(answer())
		for i := range answer() {
			lists := answer()
			others := slices.Delete(slices.Clone(lists), i, i+1)
			before := fmt.Sprint(others)
			scribble(lists[i])
			same(t, what+": the other lists", others, before)
			same(t, what+": the memory handed in", wholeMem, "[1 2 77 77 77]")
			same(t, what+": the next answer", answer(), want)
		}
	}
}
