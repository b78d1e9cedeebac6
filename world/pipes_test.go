package world_test

import "testing"

// P12.1: OpSend, as chapter 5's Send without try.
func TestSend(t *testing.T) {
	askRuns(t, []run{
		{"it waits where nothing is held", "send p3 r0; print r0", 1, "0*9", "", "stuck 1 0 [1]", ""},
		{"it waits where all is full", "set r0 5; send p1 r0; send p1 r0", 1, "0*9", "1 send 1 5", "stuck 3 0 [1]", ""},
		{"some, and full", "set r0 5; send p2 r0; set r0 6; send p2 r0; send p2 r0", 1, "0*9", "1 send 2 5; 1 send 2 6", "stuck 5 0 [1]", ""},
		{"values come in their order", "set r0 5; send p2 r0; set r0 6; send p2 r0; get r1 p2; print r1; get r1 p2; print r1; get r1 p2", 1, "0*20",
			"1 send 2 5; 1 send 2 6; 1 get 2 5; 1 print 0 5; 1 get 2 6; 1 print 0 6", "stuck 9 0 [1]", ""},
	})
	// 2 and 3 wait to get, 3 first; then task 1 sends 7 and 8
	getters := func(pipe string) string {
		return "go @8 r0; go @8 r0; yield; set r0 7; send " + pipe + " r0; set r0 8; send " + pipe + " r0; yield; get r3 " + pipe + "; print r3; print r7; end"
	}
	askRuns(t, []run{
		{"to who waits, where nothing is held", getters("p3"), 1, "0*3 0*2 0*5 0*6",
			"1 go 0 2; 1 go 0 3; 1 send 3 7; 3 get 3 7; 1 send 3 8; 2 get 3 8; 2 print 0 8; 2 print 0 1; 2 end 0 0; 3 print 0 7; 3 print 0 1; 3 end 0 0", "going 16 0 [0 3 3]", ""},
		{"to who waits, where some can be held", getters("p2"), 1, "0*3 0*2 0*5 0*6",
			"1 go 0 2; 1 go 0 3; 1 send 2 7; 3 get 2 7; 1 send 2 8; 2 get 2 8; 2 print 0 8; 2 print 0 1; 2 end 0 0; 3 print 0 7; 3 print 0 1; 3 end 0 0", "going 16 0 [0 3 3]", ""},
		{"to one who waits, the other one still does", getters("p3"), 1, "0*3 0*2 0*2",
			"1 go 0 2; 1 go 0 3; 1 send 3 7; 3 get 3 7", "going 7 0 [0 1 0]", ""},
	})
}

// P12.1: OpGet, as chapter 5's Get without try; r7 tells whether the value was sent.
func TestGet(t *testing.T) {
	askRuns(t, []run{
		{"it waits where nothing is held", "get r0 p3; print r0", 1, "0*9", "", "stuck 1 0 [1]", ""},
		{"it waits where nothing is there", "get r0 p2", 1, "0*9", "", "stuck 1 0 [1]", ""},
		{"what is there", "set r0 5; send p2 r0; get r6 p2; print r6; print r7; print r0", 1, "0*9",
			"1 send 2 5; 1 get 2 5; 1 print 0 5; 1 print 0 1; 1 print 0 5; 1 end 0 0", "ended 7 0 [3]", ""},
		{"what is there, though the pipe is closed, and then nothing", "set r0 5; send p1 r0; shut p1; get r1 p1; print r1; print r7; get r1 p1; print r1; print r7; get r1 p1; end", 1, "0*20",
			"1 send 1 5; 1 shut 1 0; 1 get 1 5; 1 print 0 5; 1 print 0 1; 1 get 1 0; 1 print 0 0; 1 print 0 0; 1 get 1 0; 1 end 0 0", "ended 11 0 [3]", ""},
		{"nothing of a closed pipe, over what was in the registers", "set r7 9; set r1 9; shut p3; get r1 p3; print r1; print r7", 1, "0*9",
			"1 shut 3 0; 1 get 3 0; 1 print 0 0; 1 print 0 0; 1 end 0 0", "ended 7 0 [3]", ""},
		{"a 0 that was sent", "send p1 r0; get r1 p1; print r1; print r7; end", 1, "0*9",
			"1 send 1 0; 1 get 1 0; 1 print 0 0; 1 print 0 1; 1 end 0 0", "ended 5 0 [3]", ""},
		{"into r7, where it is told over the value that it was sent", "set r0 5; send p1 r0; get r7 p1; print r7; end", 1, "0*9",
			"1 send 1 5; 1 get 1 5; 1 print 0 1; 1 end 0 0", "ended 5 0 [3]", ""},
		{"into r7, when woken", "go @4 r0; set r0 5; send p3 r0; get r0 p3; get r7 p3; print r7; end", 2, "0 1 0*3 0*2",
			"1 go 0 2; 1 send 3 5; 2 get 3 5; 2 print 0 1; 2 end 0 0", "stuck 7 0 [1 3]", ""},
	})
	// 2 and 3 wait to send 11 and 12, 3 first; then task 1 gets twice
	const senders = "set r0 11; set r1 12; go @9 r0; go @9 r1; yield; get r2 p3; get r3 p3; print r3; end; send p3 r0; print r0; end"
	askRuns(t, []run{
		{"from senders, who come first where nothing is held", senders, 1, "0*20",
			"1 go 0 2; 1 go 0 3; 3 send 3 12; 1 get 3 12; 2 send 3 11; 1 get 3 11; 1 print 0 11; 1 end 0 0", "ended 11 0 [3 0 0]", ""},
		{"the senders go on behind", senders, 2, "0*5 0*2 0*2 1*2 0*2 1*2",
			"1 go 0 2; 1 go 0 3; 3 send 3 12; 1 get 3 12; 2 send 3 11; 1 get 3 11; 3 print 0 12; 3 end 0 0; 1 print 0 11; 1 end 0 0", "ended 13 0 [3 0 3]", ""},
		{"the other one still waits", senders, 1, "0*5 0*2 0",
			"1 go 0 2; 1 go 0 3; 3 send 3 12; 1 get 3 12", "going 8 0 [0 1 0]", ""},
	})
	// the pipe holds 5, and 2 waits to send 6
	askRuns(t, []run{
		{"from a full pipe: the sender comes behind, and so does its value", "set r0 5; send p1 r0; set r1 6; go @9 r1; yield; get r2 p1; print r2; get r2 p1; end; send p1 r0; end", 1, "0*20",
			"1 send 1 5; 1 go 0 2; 1 get 1 5; 2 send 1 6; 1 print 0 5; 1 get 1 6; 1 end 0 0", "ended 10 0 [3 0]", ""},
		{"the pipe is full again then", "set r0 5; send p1 r0; set r1 6; go @8 r1; yield; get r2 p1; send p1 r0; end; send p1 r0; end", 1, "0*20",
			"1 send 1 5; 1 go 0 2; 1 get 1 5; 2 send 1 6; 2 end 0 0", "stuck 9 0 [1 3]", ""},
	})
}

// P12.1: OpShut, as chapter 5's Shut: who waits to get goes on without a value, who waits to send panics.
func TestShut(t *testing.T) {
	// 2, 3 and 4 wait to get, in the order 4, 2, 3
	getters := func(pipe string) string {
		return "go @7 r0; go @7 r0; go @7 r0; yield; shut " + pipe + "; yield; end; set r1 9; set r7 9; get r1 " + pipe + "; print r1; print r7; end"
	}
	const gone = "3 print 0 0; 3 print 0 0; 3 end 0 0; 4 print 0 0; 4 print 0 0; 4 end 0 0; 2 print 0 0; 2 print 0 0; 2 end 0 0; 1 end 0 0"
	askRuns(t, []run{
		{"nobody waits", "shut p3; print r0", 1, "0*9", "1 shut 3 0; 1 print 0 0; 1 end 0 0", "ended 3 0 [3]", ""},
		{"getters", getters("p3"), 1, "0*40",
			"1 go 0 2; 1 go 0 3; 1 go 0 4; 1 shut 3 0; 4 get 3 0; 2 get 3 0; 3 get 3 0; " + gone, "ended 25 0 [3 3 3 3]", ""},
		{"getters, where some can be held", getters("p2"), 1, "0*40",
			"1 go 0 2; 1 go 0 3; 1 go 0 4; 1 shut 2 0; 4 get 2 0; 2 get 2 0; 3 get 2 0; " + gone, "ended 25 0 [3 3 3 3]", ""},
	})
	// 2, 3 and 4 wait to send, in the order 4, 2, 3
	askRuns(t, []run{
		{"senders: the first one panics, and nobody behind it is woken", "go @6 r0; go @6 r0; go @6 r0; yield; shut p3; end; send p3 r0; end", 1, "0*20",
			"1 go 0 2; 1 go 0 3; 1 go 0 4; 1 shut 3 0; 4 panic 3 0", "panics 8 0 [0 1 1 0]", ""},
		{"senders at a full pipe", "send p1 r0; go @7 r0; go @7 r0; go @7 r0; yield; shut p1; end; send p1 r0; end", 1, "0*20",
			"1 send 1 0; 1 go 0 2; 1 go 0 3; 1 go 0 4; 1 shut 1 0; 4 panic 1 0", "panics 9 0 [0 1 1 0]", ""},
		{"a sender alone", "go @4 r0; yield; shut p3; end; send p3 r0; end", 1, "0*3 0 0 0",
			"1 go 0 2; 1 shut 3 0; 2 panic 3 0", "panics 4 0 [0 0]", ""},
		{"the first task is woken to panic", "go @3 r0; send p3 r0; end; shut p3", 1, "0*20",
			"1 go 0 2; 2 shut 3 0; 1 panic 3 0", "panics 3 0 [0 0]", ""},
	})
}

// P12.1: pipes are apart.
func TestPipesAreApart(t *testing.T) {
	askRuns(t, []run{
		{"a send to one is not got from the other", "send p1 r0; get r0 p2", 1, "0*9", "1 send 1 0", "stuck 2 0 [1]", ""},
		{"the other one is open", "shut p1; send p2 r0; end", 1, "0*9", "1 shut 1 0; 1 send 2 0; 1 end 0 0", "ended 3 0 [3]", ""},
		{"senders wait at one, getters at the other", "go @2 r0; send p0 r0; get r0 p3", 1, "0*9", "1 go 0 2", "stuck 3 0 [1 1]", ""},
	})
}
