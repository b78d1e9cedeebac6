package world_test

import (
	"fmt"
	"slices"
	"testing"

	"taskmill/api"
)

// P12.1: after each entry, if no task can go on or sleeps, the run is Stuck.
func TestStuck(t *testing.T) {
	askRuns(t, []run{
		{"the first task alone", "print r0; get r0 p0", 1, "0*9", "1 print 0 0", "stuck 2 0 [1]", ""},
		{"all tasks, at three kinds of things", "set r1 1; count g0 r1; go @6 r0; go @7 r0; get r0 p0; end; wait g0; lock l0 1; lock l0 1", 1, "0*9 .",
			"1 count 0 1; 1 go 0 2; 1 go 0 3; 3 lock 0 1", "stuck 8 0 [1 1 1]", ""},
		{"the others have ended", "go @2 r0; get r0 p0; print r0; end", 1, "0*9", "1 go 0 2; 2 print 0 0; 2 end 0 0", "stuck 4 0 [1 3]", ""},
		{"not while one can go on", "go @2 r0; get r0 p0; jump @2", 1, "0*9", "1 go 0 2", "going 9 0 [1 0]", ""},
		{"not while one can go on, whom nobody goes on with", "go @2 r0; get r0 p0; jump @2", 2, "0*2 .*3", "1 go 0 2", "going 5 3 [1 0]", ""},
		{"not while one sleeps", "set r0 2; go @3 r0; get r0 p0; sleep r0; end", 1, "0*3 0*5 . 0*2", "1 go 0 2", "going 11 1 [1 2]", ""},
		{"but when it has ended", "set r0 2; go @3 r0; get r0 p0; sleep r0; end", 1, "0*4 .*2 0*9", "1 go 0 2; 2 end 0 0", "stuck 7 2 [1 3]", ""},
		{"but when it waits", "set r0 1; go @3 r0; get r0 p0; sleep r0; get r0 p0", 1, "0*4 . 0*9", "1 go 0 2", "stuck 6 1 [1 1]", ""},
	})
}

// P12.1: entries behind the end of a run are not done: neither steps nor ticks.
func TestBehindTheEnd(t *testing.T) {
	ends := []struct {
		code string
		end  string
	}{
		{"go @2 r0; end; print r0", "ended 2 0 [3 0]"},
		{"go @2 r0; panic; print r0", "panics 2 0 [0 0]"},
		{"go @2 r0; get r0 p0; get r0 p0", "stuck 3 0 [1 1]"},
		{"go @0 r0; jump @0", fmt.Sprint("full 127 0 ", make([]int, 64))},
	}
	for _, e := range ends {
		p := coded(t, e.code)
		first := played(t, p, 2, make([]int, 200))
		same(t, e.code, ended(first), e.end)
		for _, more := range [][]int{nil, {0}, {-1}, {1, 1, 1}, {-1, 0, -1, 1, 0, 0}, make([]int, 1000)} {
			script := slices.Concat(make([]int, first.Steps), more)
			same(t, e.code+": with more", played(t, p, 2, script), first)
		}
		short := played(t, p, 2, make([]int, first.Steps-1))
		same(t, e.code+": one entry less", told(short.State, short.Steps), told(api.Going, first.Steps-1))
	}
}

// P12.1: Going, if the script ends first; Steps and now are those of all entries.
func TestGoing(t *testing.T) {
	askRuns(t, []run{
		{"no entries", "print r0", 1, "", "", "going 0 0 [0]", ""},
		{"a tick", "print r0", 1, ".", "", "going 1 1 [0]", ""},
		{"steps and ticks", "print r0; print r0; print r0; end", 2, ". 0 .*2 0 1 .", "1 print 0 0; 1 print 0 0", "going 7 4 [0]", ""},
		{"the last entry ends it", "print r0", 1, ". 0*2", "1 print 0 0; 1 end 0 0", "ended 3 1 [3]", ""},
		{"a task in each state", "set r1 9; go @6 r1; go @7 r0; go @5 r0; yield; end; sleep r0; get r0 p0; end", 1, "0*5 0*3", "1 go 0 2; 1 go 0 3; 1 go 0 4; 4 end 0 0", "going 8 0 [0 2 1 3]", ""},
	})
}
