package world_test

import (
	"fmt"
	"math"
	"strings"
	"testing"

	"taskmill/api"
	"taskmill/world"
)

// P12.1: what a task does by itself is no event, and its numbers wrap.
func TestAlone(t *testing.T) {
	const most = math.MaxInt
	askRuns(t, []run{
		{"set, copy, add, sub", "set r1 5; copy r2 r1; add r2 r1; print r2; sub r2 r1; print r2; print r1", 1, "0*9",
			"1 print 0 10; 1 print 0 5; 1 print 0 5; 1 end 0 0", "ended 8 0 [3]", ""},
		{"less", "set r1 -1; less r1 r0; print r1; less r1 r0; print r1; less r0 r0; print r0", 1, "0*9",
			"1 print 0 1; 1 print 0 0; 1 print 0 0; 1 end 0 0", "ended 8 0 [3]", ""},
		{"jump and zero", "zero r0 @3; print r0; end; set r0 1; zero r0 @0; jump @1", 1, "0*9",
			"1 print 0 1; 1 end 0 0", "ended 6 0 [3]", ""},
		{"numbers wrap", fmt.Sprint("set r1 ", most, "; set r2 1; add r1 r2; print r1; sub r1 r2; print r1"), 1, "0*9",
			fmt.Sprint("1 print 0 ", math.MinInt, "; 1 print 0 ", most, "; 1 end 0 0"), "ended 7 0 [3]", ""},
		{"each of them is one step", "set r1 5; copy r2 r1; add r2 r1; sub r2 r1; less r2 r1; zero r2 @7; end; jump @7", 1, "0*9",
			"", "going 9 0 [0]", ""},
		{"registers are a task's own", "set r1 4; set r3 7; go @5 r1; yield; end; print r0; print r1; print r3; set r3 9; print r3", 1, "0*4 0*6 0*2",
			"1 go 0 2; 2 print 0 4; 2 print 0 0; 2 print 0 0; 2 print 0 9; 2 end 0 0; 1 end 0 0", "ended 11 0 [3 3]", ""},
	})
}

// P12.1: all cells are 0 at first; they are all tasks'.
func TestCells(t *testing.T) {
	askRuns(t, []run{
		{"load of 0", "set r1 8; load r1 c2; print r1", 1, "0*3", "1 load 2 0; 1 print 0 0", "going 3 0 [0]", ""},
		{"store and load", "set r1 8; store c1 r1; load r2 c1; print r2; set r1 -3; store c0 r1; store c1 r1", 1, "0*7",
			"1 store 1 8; 1 load 1 8; 1 print 0 8; 1 store 0 -3; 1 store 1 -3", "going 7 0 [0]", "[-3 -3 0]"},
		{"by two tasks", "set r1 8; go @5 r0; store c2 r1; get r0 p0; end; load r1 c2; print r1; end", 2, "0*3 1*3",
			"1 go 0 2; 1 store 2 8; 2 load 2 8; 2 print 0 8; 2 end 0 0", "going 6 0 [0 3]", "[0 0 8]"},
		{"ahead of the other one's store", "set r1 8; go @5 r0; store c2 r1; get r0 p0; end; load r1 c2; print r1; end", 2, "0*2 1 0 1*2",
			"1 go 0 2; 2 load 2 0; 1 store 2 8; 2 print 0 0; 2 end 0 0", "going 6 0 [0 3]", "[0 0 8]"},
	})
	r, f := world.Play(api.Program{}, 1, []int{0})
	same(t, "a program without cells", told(len(r.Cells), f), told(0, none))
	r, f = world.Play(api.Program{Cells: 20}, 1, nil)
	same(t, "twenty", told(r.Cells, f), told(make([]int, 20), none))
}

// P12.1: where there is no next instruction, it is OpEnd; so a program as of nothing ends.
func TestNoInstruction(t *testing.T) {
	askRuns(t, []run{
		{"the first task's code ends", "print r0", 1, "0*3", "1 print 0 0; 1 end 0 0", "ended 2 0 [3]", ""},
		{"another one's does", "go @3 r0; yield; jump @1; print r0", 1, "0*4",
			"1 go 0 2; 2 print 0 0; 2 end 0 0", "going 4 0 [0 3]", ""},
		{"behind a wait", "set r0 1; go @4 r0; send p0 r0; end; get r0 p0", 1, "0*3 0 0",
			"1 go 0 2; 1 send 0 1; 2 get 0 1; 2 end 0 0", "going 5 0 [0 3]", ""},
	})
	for procs := 1; procs <= mostProcs; procs++ {
		r, f := world.Play(api.Program{}, procs, []int{procs - 1, 0})
		same(t, "a program as of nothing", told(traced(r.Trace), ended(r), f), told("1 end 0 0", "ended 1 0 [3]", none))
	}
	r, f := world.Play(api.Program{}, 1, nil)
	same(t, "and no entries", told(r, f), told("{[] 0 0 0 [0] []}", none))
}

// P12.1: OpYield: the task comes to the end of the global queue.
func TestYield(t *testing.T) {
	askRuns(t, []run{
		{"alone it goes on again", "yield; print r0", 1, "0*3", "1 print 0 0; 1 end 0 0", "ended 3 0 [3]", ""},
		{"another processor goes on with it", "print r0; yield; print r0", 2, "0*2 1*2", "1 print 0 0; 1 print 0 0; 1 end 0 0", "ended 4 0 [3]", ""},
		{"two take turns", "go @3 r0; yield; jump @1; print r0; yield; jump @3", 1, "0*2 0*2 0*2 0*2 0*2",
			"1 go 0 2; 2 print 0 0; 2 print 0 0", "going 10 0 [0 0]", ""},
		{"behind those who are there", "go @5 r0; go @5 r0; yield; print r0; end; yield; print r0; jump @5", 1, "0*5 0*2 0*2",
			"1 go 0 2; 1 go 0 3; 1 print 0 0; 1 end 0 0", "ended 7 0 [3 0 0]", ""},
	})
}

// spawner begins so many tasks, which end when they go on, and then ends.
func spawner(many int) string {
	return fmt.Sprint("set r1 ", many, "; set r2 -1; go @6 r0; add r1 r2; zero r1 @6; jump @2; end")
}

// P12.1: OpGo: the new task has the next number, and rB in its r0; if there are MaxTask tasks, the run ends.
func TestGo(t *testing.T) {
	askRuns(t, []run{
		{"numbers and values", "set r0 3; set r5 6; go @6 r0; go @6 r5; yield; end; print r0; print r5; end", 1, "0*20",
			"1 go 0 2; 1 go 0 3; 3 print 0 6; 3 print 0 0; 3 end 0 0; 2 print 0 3; 2 print 0 0; 2 end 0 0; 1 end 0 0", "ended 12 0 [3 3 3]", ""},
		{"a number is not given again", "go @4 r0; yield; go @4 r0; end; end", 1, "0*9",
			"1 go 0 2; 2 end 0 0; 1 go 0 3; 1 end 0 0", "ended 5 0 [3 3 0]", ""},
		{"by another one", "go @2 r0; get r0 p0; go @4 r0; end; print r0; end", 1, "0*9",
			"1 go 0 2; 2 go 0 3; 2 end 0 0; 3 print 0 0; 3 end 0 0", "stuck 6 0 [1 3 3]", ""},
	})
	begins := func(many int) string {
		var events []string
		for task := 2; task <= many; task++ {
			events = append(events, fmt.Sprint("1 go 0 ", task))
		}
		return strings.Join(events, "; ")
	}
	going := func(many int) string { return strings.TrimSuffix(strings.Repeat("0 ", many), " ") }
	askRuns(t, []run{
		{"MaxTask", spawner(api.MaxTask - 1), 1, "0*400", begins(64) + "; 1 end 0 0", "ended 254 0 [3 " + going(63) + "]", ""},
		{"one less", spawner(api.MaxTask - 2), 1, "0*400", begins(63) + "; 1 end 0 0", "ended 250 0 [3 " + going(62) + "]", ""},
		{"one more", spawner(api.MaxTask), 1, "0*400", begins(64), "full 255 0 [" + going(64) + "]", ""},
		{"many more", spawner(1000), 1, "0*400 . 0", begins(64), "full 255 0 [" + going(64) + "]", ""},
	})
	// those that have ended are tasks, too
	r, _ := world.Play(coded(t, "go @3 r0; yield; jump @0; end"), 1, make([]int, api.MaxOps))
	same(t, "full of those who have ended", ended(r), "full 253 0 [0 "+strings.TrimSuffix(strings.Repeat("3 ", 63), " ")+"]")
}

// P12.1: OpEnd of task 1 ends the run, that of others does not.
func TestEnd(t *testing.T) {
	askRuns(t, []run{
		{"the first one", "go @2 r0; end; end", 1, "0*9", "1 go 0 2; 1 end 0 0", "ended 2 0 [3 0]", ""},
		{"another one ahead", "go @3 r0; yield; end; end", 1, "0*9", "1 go 0 2; 2 end 0 0; 1 end 0 0", "ended 4 0 [3 3]", ""},
		{"while others wait and sleep", "set r1 1; go @6 r1; go @7 r1; yield; print r0; end; get r0 p0; sleep r0; end", 1, "0*20",
			"1 go 0 2; 1 go 0 3; 1 print 0 0; 1 end 0 0", "ended 8 0 [3 1 2]", ""},
	})
}

// P12.1: OpPanic, and whatever panics, ends the run; Obj is where it panics.
func TestPanic(t *testing.T) {
	askRuns(t, []run{
		{"the first one", "print r0; panic; print r0", 1, "0*9", "1 print 0 0; 1 panic 0 0", "panics 2 0 [0]", ""},
		{"another one", "go @2 r0; get r0 p0; panic", 1, "0*9", "1 go 0 2; 2 panic 0 0", "panics 3 0 [1 0]", ""},
		{"a send to a closed pipe", "shut p3; send p3 r0; end", 1, "0*9", "1 shut 3 0; 1 panic 3 0", "panics 2 0 [0]", ""},
		{"a send to a closed pipe with room", "shut p2; send p2 r0; end", 1, "0*9", "1 shut 2 0; 1 panic 2 0", "panics 2 0 [0]", ""},
		{"a send to a closed pipe that is full", "send p1 r0; shut p1; send p1 r0; end", 1, "0*9", "1 send 1 0; 1 shut 1 0; 1 panic 1 0", "panics 3 0 [0]", ""},
		{"a closed pipe is closed again", "shut p3; shut p3", 1, "0*9", "1 shut 3 0; 1 panic 3 0", "panics 2 0 [0]", ""},
		{"a lock that is free is left", "unlock l1 1", 1, "0*9", "1 panic 1 0", "panics 1 0 [0]", ""},
		{"likewise by a reader", "unlock l1 0", 1, "0*9", "1 panic 1 0", "panics 1 0 [0]", ""},
		{"a group below 0", "set r0 -1; count g1 r0", 1, "0*9", "1 panic 1 0", "panics 2 0 [0]", ""},
		{"too long a sleep", fmt.Sprint("set r1 ", api.MaxNum+1, "; sleep r1"), 1, "0*9", "1 panic 0 0", "panics 2 0 [0]", ""},
	})
}
