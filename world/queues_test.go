package world_test

import "testing"

// P12.1: a processor that goes on with no task takes one from its ring, if there is one: Next first, then those of List.
func TestOwnRing(t *testing.T) {
	askRuns(t, []run{
		{"from the ring ahead of the global queue", "go @4 r0; yield; print r0; end; print r0; end", 1, "0*9",
			"1 go 0 2; 2 print 0 0; 2 end 0 0; 1 print 0 0; 1 end 0 0", "ended 6 0 [3 3]", ""},
		{"who begins last is Next; the others come in their order", "go @5 r0; go @5 r0; go @5 r0; yield; end; print r0; end", 1, "0*20",
			"1 go 0 2; 1 go 0 3; 1 go 0 4; 4 print 0 0; 4 end 0 0; 2 print 0 0; 2 end 0 0; 3 print 0 0; 3 end 0 0; 1 end 0 0", "ended 11 0 [3 3 3 3]", ""},
		{"who goes on is not put off by who begins", "go @3 r0; print r0; end; print r0; end", 1, "0*9",
			"1 go 0 2; 1 print 0 0; 1 end 0 0", "ended 3 0 [3 0]", ""},
		{"a ring that is not empty is not refilled", "go @3 r0; yield; end; go @6 r0; go @6 r0; end; print r0; end", 1, "0*20",
			"1 go 0 2; 2 go 0 3; 2 go 0 4; 2 end 0 0; 4 print 0 0; 4 end 0 0; 3 print 0 0; 3 end 0 0; 1 end 0 0", "ended 10 0 [3 3 3 3]", ""},
		{"it goes on with its task step by step", "print r0; set r0 1; print r0; set r0 2; print r0", 2, "1*9",
			"1 print 0 0; 1 print 0 1; 1 print 0 2; 1 end 0 0", "ended 6 0 [3]", ""},
	})
}

// crowd has task 1 begin four others, which all yield once, and print; then it prints and waits for ever.
const crowd = "go @7 r0; go @7 r0; go @7 r0; go @7 r0; yield; print r0; get r0 p0; yield; print r0; end"

// crowdBegins is what the trace of crowd begins with.
// Behind it and the yields of 1, 5, 2, 3, 4 the global queue is just these, in this order, and rings are empty.
const crowdBegins = "1 go 0 2; 1 go 0 3; 1 go 0 4; 1 go 0 5; "

// P12.1: if its ring is empty, a processor refills it from the global queue: more than it takes, by how many processors there are.
func TestRefilled(t *testing.T) {
	askRuns(t, []run{
		{"one processor takes all", crowd, 1, "0*30",
			crowdBegins + "1 print 0 0; 5 print 0 0; 5 end 0 0; 2 print 0 0; 2 end 0 0; 3 print 0 0; 3 end 0 0; 4 print 0 0; 4 end 0 0", "stuck 19 0 [1 3 3 3 3]", ""},
		// 0 has 1 5 2, and 1 has 3 4
		{"of two the first takes three of five", crowd, 2, "0*9 0 1 0*5 1*3",
			crowdBegins + "1 print 0 0; 3 print 0 0; 5 print 0 0; 5 end 0 0; 2 print 0 0; 2 end 0 0; 3 end 0 0; 4 print 0 0; 4 end 0 0", "stuck 19 0 [1 3 3 3 3]", ""},
		// 2 has 1 5, then 1 has 2 3, then 0 has 4
		{"of three each takes two", crowd, 3, "0*9 2 1 0 2*2 1*2 0 1",
			crowdBegins + "1 print 0 0; 2 print 0 0; 4 print 0 0; 5 print 0 0; 2 end 0 0; 3 print 0 0; 4 end 0 0; 3 end 0 0", "going 18 0 [1 3 3 3 0]", ""},
		// 5 has 1 alone, then 4 has 5, and so on
		{"of sixteen each takes one", crowd, 16, "0*9 5 4 3 2 1 5*2",
			crowdBegins + "1 print 0 0; 5 print 0 0; 2 print 0 0; 3 print 0 0; 4 print 0 0", "going 16 0 [1 0 0 0 0]", ""},
		{"the global queue ahead of another's ring", "go @4 r0; yield; print r0; end; print r0; end", 2, "0*2 1 0",
			"1 go 0 2; 1 print 0 0; 2 print 0 0", "going 4 0 [0 0]", ""},
	})
}

// P12.1: if the global queue is empty, too, a processor steals from the next one, or from the one behind that, and so on, round.
func TestStolen(t *testing.T) {
	// task 1 begins 2 to 5 and goes on: the ring has Next 5 and List 2 3 4
	const busy = "go @6 r0; go @6 r0; go @6 r0; go @6 r0; print r0; jump @4; print r0; end"
	askRuns(t, []run{
		{"half of the List from the next one, round", busy, 2, "0*4 1*4 1",
			crowdBegins + "2 print 0 0; 2 end 0 0; 3 print 0 0; 3 end 0 0; 4 print 0 0", "going 9 0 [0 3 3 0 0]", ""},
		{"Next at last", busy, 2, "0*4 1*8 1*2",
			crowdBegins + "2 print 0 0; 2 end 0 0; 3 print 0 0; 3 end 0 0; 4 print 0 0; 4 end 0 0; 5 print 0 0; 5 end 0 0", "going 14 0 [0 3 3 3 3]", ""},
		// 2 has stolen 2 3 from 0, and goes on with 2; for 1 the next one is 2
		{"from the nearest that has some", busy, 3, "0*4 2 1 1 1 0",
			crowdBegins + "2 print 0 0; 3 print 0 0; 3 end 0 0; 4 print 0 0; 1 print 0 0", "going 9 0 [0 0 3 0 0]", ""},
		{"from no other one then", busy, 3, "0*4 2 1 2*2",
			crowdBegins + "2 print 0 0; 3 print 0 0; 2 end 0 0; 4 print 0 0", "going 8 0 [0 3 0 0 0]", ""},
		{"from one farther round", busy, 4, "0*4 1 1*3",
			crowdBegins + "2 print 0 0; 2 end 0 0; 3 print 0 0; 3 end 0 0", "going 8 0 [0 3 3 0 0]", ""},
		{"from the farthest", busy, 16, "0*4 1",
			crowdBegins + "2 print 0 0", "going 5 0 [0 0 0 0 0]", ""},
		{"by the last one", busy, 16, "0*4 15",
			crowdBegins + "2 print 0 0", "going 5 0 [0 0 0 0 0]", ""},
		{"from the last one", busy, 16, "15*4 14",
			crowdBegins + "2 print 0 0", "going 5 0 [0 0 0 0 0]", ""},
		{"who has lost its ring takes from it what is left", "go @4 r0; go @4 r0; go @4 r0; get r0 p0; print r0; end", 2, "0*3 1 0*3",
			"1 go 0 2; 1 go 0 3; 1 go 0 4; 2 print 0 0; 4 print 0 0; 4 end 0 0", "going 7 0 [1 0 0 3]", ""},
	})
}

// P12.1: if a processor has no task then, nothing happens; but the entry is done.
func TestNoTask(t *testing.T) {
	askRuns(t, []run{
		{"the one task is gone on with elsewhere", "print r0; end", 2, "0 1*3 0",
			"1 print 0 0; 1 end 0 0", "ended 5 0 [3]", ""},
		{"the one task sleeps", "set r0 2; sleep r0; print r0", 2, "0*2 0 1 . 0 1 . 1",
			"1 print 0 2", "going 9 2 [0]", ""},
		{"another one goes on, the rest waits", "go @2 r0; get r0 p0; print r0; jump @2", 2, "0*2 0 1 1",
			"1 go 0 2; 2 print 0 0", "going 5 0 [1 0]", ""},
	})
}

// P12.1: whoever is woken is put to the ring of the processor whose step it is, as Next, one after the other.
func TestWokenToRing(t *testing.T) {
	// 2, 3 and 4 wait for a group at which task 1 counts
	const waiters = "set r1 1; count g1 r1; go @10 r0; go @10 r0; go @10 r0; yield; set r1 -1; count g1 r1; yield; end; wait g1; print r0; end"
	askRuns(t, []run{
		{"the last one woken is Next", waiters, 1, "0*6 0*3 0*3 0*20",
			"1 count 1 1; 1 go 0 2; 1 go 0 3; 1 go 0 4; 1 count 1 -1; 4 wait 1 0; 2 wait 1 0; 3 wait 1 0; 3 print 0 0; 3 end 0 0; 4 print 0 0; 4 end 0 0; 2 print 0 0; 2 end 0 0; 1 end 0 0", "ended 19 0 [3 3 3 3]", ""},
		{"not to that where they waited", waiters, 2, "0*9 1*2 0 1*2",
			"1 count 1 1; 1 go 0 2; 1 go 0 3; 1 go 0 4; 1 count 1 -1; 4 wait 1 0; 2 wait 1 0; 3 wait 1 0; 4 print 0 0; 3 print 0 0", "going 14 0 [0 0 0 0]", ""},
	})
}
