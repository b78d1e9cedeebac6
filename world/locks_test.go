package world_test

import (
	"fmt"
	"math"
	"testing"

	"taskmill/api"
)

// P12.1: OpLock, as chapter 7's Enter without try; OpUnlock, as Leave.
func TestLocks(t *testing.T) {
	askRuns(t, []run{
		{"to write", "lock l1 1; unlock l1 1; end", 1, "0*9", "1 lock 1 1; 1 unlock 1 1; 1 end 0 0", "ended 3 0 [3]", ""},
		{"to read", "lock l1 0; unlock l1 0; end", 1, "0*9", "1 lock 1 0; 1 unlock 1 0; 1 end 0 0", "ended 3 0 [3]", ""},
		{"to read twice", "lock l1 0; lock l1 0; unlock l1 0; unlock l1 0; unlock l1 0", 1, "0*9",
			"1 lock 1 0; 1 lock 1 0; 1 unlock 1 0; 1 unlock 1 0; 1 panic 1 0", "panics 5 0 [0]", ""},
		{"to write twice", "lock l1 1; lock l1 1", 1, "0*9", "1 lock 1 1", "stuck 2 0 [1]", ""},
		{"to write, held to read", "lock l1 0; lock l1 1", 1, "0*9", "1 lock 1 0", "stuck 2 0 [1]", ""},
		{"to read, held to write", "lock l1 1; lock l1 0", 1, "0*9", "1 lock 1 1", "stuck 2 0 [1]", ""},
		{"the other lock is free", "lock l1 1; lock l0 1; end", 1, "0*9", "1 lock 1 1; 1 lock 0 1; 1 end 0 0", "ended 3 0 [3]", ""},
		{"left as another one than it is held as", "lock l1 0; unlock l1 1", 1, "0*9", "1 lock 1 0; 1 panic 1 0", "panics 2 0 [0]", ""},
		{"likewise a writer", "lock l1 1; unlock l1 0", 1, "0*9", "1 lock 1 1; 1 panic 1 0", "panics 2 0 [0]", ""},
		{"left by one that does not hold it", "lock l1 1; go @4 r0; lock l1 1; end; unlock l1 1; end", 2, "0*2 1 0*2",
			"1 lock 1 1; 1 go 0 2; 2 unlock 1 1; 1 lock 1 1; 1 end 0 0", "ended 5 0 [3 0]", ""},
		{"left by one that does not hold it, and waited for", "lock l1 1; go @4 r0; lock l1 1; end; unlock l1 1; end", 2, "0*3 1*3",
			"1 lock 1 1; 1 go 0 2; 2 unlock 1 1; 1 lock 1 1; 2 end 0 0; 1 end 0 0", "ended 6 0 [3 3]", ""},
	})
}

// P12.1: those who wait for a lock are admitted in their order, as chapter 7 says.
func TestLockIsWaitedFor(t *testing.T) {
	// task 1 holds lock 1 to write; 4 waits to read, then 2 to write, then 3 to read
	const mixed = "lock l1 1; go @8 r0; go @11 r0; go @11 r0; yield; unlock l1 1; get r0 p0; end; lock l1 1; unlock l1 1; end; lock l1 0; unlock l1 0; end"
	// task 1 holds lock 1 to write; 4, 2 and 3 wait to read
	const readers = "lock l1 1; go @8 r0; go @8 r0; go @8 r0; yield; unlock l1 1; get r0 p0; end; lock l1 0; unlock l1 0; end"
	// task 1 holds lock 1 to read; 3 waits to write, and 2 to read behind it
	const behind = "lock l1 0; go @8 r0; go @6 r0; yield; unlock l1 0; get r0 p0; lock l1 1; end; lock l1 0; end"
	const three = "1 go 0 2; 1 go 0 3; 1 go 0 4; "
	askRuns(t, []run{
		{"a reader alone, ahead of a writer", mixed, 1, "0*8 0", "1 lock 1 1; " + three + "1 unlock 1 1; 4 lock 1 0", "going 9 0 [0 1 1 0]", ""},
		{"then the writer, then a reader", mixed, 1, "0*40",
			"1 lock 1 1; " + three + "1 unlock 1 1; 4 lock 1 0; 4 unlock 1 0; 2 lock 1 1; 4 end 0 0; 2 unlock 1 1; 3 lock 1 0; 2 end 0 0; 3 unlock 1 0; 3 end 0 0", "stuck 16 0 [1 3 3 3]", ""},
		{"readers together", readers, 1, "0*40",
			"1 lock 1 1; " + three + "1 unlock 1 1; 4 lock 1 0; 2 lock 1 0; 3 lock 1 0; 3 unlock 1 0; 3 end 0 0; 4 unlock 1 0; 4 end 0 0; 2 unlock 1 0; 2 end 0 0", "stuck 16 0 [1 3 3 3]", ""},
		{"a reader does not come ahead of a writer who waits", behind, 1, "0*40",
			"1 lock 1 0; 1 go 0 2; 1 go 0 3; 1 unlock 1 0; 3 lock 1 1; 3 end 0 0", "stuck 9 0 [1 1 3]", ""},
	})
}

// The document's example: two tasks that take two locks in two orders: some script leaves them Stuck; in one order none does.
func TestTwoLocks(t *testing.T) {
	const two = "go @7 r0; lock l0 1; lock l1 1; unlock l1 1; unlock l0 1; get r0 p0; end; lock l1 1; lock l0 1; unlock l0 1; unlock l1 1; send p0 r0; end"
	const one = "go @7 r0; lock l0 1; lock l1 1; unlock l1 1; unlock l0 1; get r0 p0; end; lock l0 1; lock l1 1; unlock l1 1; unlock l0 1; send p0 r0; end"
	askRuns(t, []run{
		{"in two orders", two, 2, "0 0 1 0 1 0*9", "1 go 0 2; 1 lock 0 1; 2 lock 1 1", "stuck 5 0 [1 1]", ""},
		{"in two orders, one behind the other", two, 2, "0*6 1*5 1 1 1",
			"1 go 0 2; 1 lock 0 1; 1 lock 1 1; 1 unlock 1 1; 1 unlock 0 1; 2 lock 1 1; 2 lock 0 1; 2 unlock 0 1; 2 unlock 1 1; 2 send 0 0; 1 get 0 0; 2 end 0 0; 1 end 0 0", "ended 13 0 [3 3]", ""},
	})
	for script := range 1 << 12 {
		var entries []int
		for bit := range 12 {
			entries = append(entries, script>>bit&1)
		}
		if r := played(t, coded(t, one), 2, entries); r.State == api.Stuck {
			t.Fatalf("in one order: %v is stuck: %v", entries, traced(r.Trace))
		}
	}
}

// P12.1: OpCount, as chapter 8's Add; OpWait, as Await; what Add has a fault for panics.
func TestGroups(t *testing.T) {
	count := func(list ...int) string {
		text := ""
		for _, n := range list {
			text += fmt.Sprint("set r1 ", n, "; count g1 r1; ")
		}
		return text
	}
	const most = api.MaxNum
	askRuns(t, []run{
		{"0 is not waited for", "wait g1; end", 1, "0*9", "1 wait 1 0; 1 end 0 0", "ended 2 0 [3]", ""},
		{"above 0", count(2) + "wait g1; end", 1, "0*9", "1 count 1 2", "stuck 3 0 [1]", ""},
		{"0 again", count(2, -1, -1) + "wait g1; end", 1, "0*9", "1 count 1 2; 1 count 1 -1; 1 count 1 -1; 1 wait 1 0; 1 end 0 0", "ended 8 0 [3]", ""},
		{"the other group is 0", count(2) + "wait g0; end", 1, "0*9", "1 count 1 2; 1 wait 0 0; 1 end 0 0", "ended 4 0 [3]", ""},
		{"0 more", count(0) + "end", 1, "0*9", "1 count 1 0; 1 end 0 0", "ended 3 0 [3]", ""},
		{"below 0", count(2, -3) + "end", 1, "0*9", "1 count 1 2; 1 panic 1 0", "panics 4 0 [0]", ""},
		{"MaxNum, and down again", count(most, -most) + "wait g1; end", 1, "0*9", fmt.Sprint("1 count 1 ", most, "; 1 count 1 ", -most, "; 1 wait 1 0; 1 end 0 0"), "ended 6 0 [3]", ""},
		{"above MaxNum at once", count(most+1) + "end", 1, "0*9", "1 panic 1 0", "panics 2 0 [0]", ""},
		{"above MaxNum in sum", count(most, 1) + "end", 1, "0*9", fmt.Sprint("1 count 1 ", most, "; 1 panic 1 0"), "panics 4 0 [0]", ""},
		{"below -MaxNum", count(most, -most-1) + "end", 1, "0*9", fmt.Sprint("1 count 1 ", most, "; 1 panic 1 0"), "panics 4 0 [0]", ""},
		{"the farthest", count(1, math.MaxInt) + "end", 1, "0*9", "1 count 1 1; 1 panic 1 0", "panics 4 0 [0]", ""},
		{"the farthest below", count(1, math.MinInt) + "end", 1, "0*9", "1 count 1 1; 1 panic 1 0", "panics 4 0 [0]", ""},
	})
	// 2 and 3 wait for group 1, 3 first
	const waiters = "set r1 2; count g1 r1; go @9 r0; go @9 r0; yield; set r1 -1; count g1 r1; count g1 r1; get r0 p0; wait g1; print r0; end"
	askRuns(t, []run{
		{"they wait while it is above 0", waiters, 1, "0*5 0*2 0*2", "1 count 1 2; 1 go 0 2; 1 go 0 3; 1 count 1 -1", "going 9 0 [0 1 1]", ""},
		{"they go on at 0", waiters, 1, "0*40",
			"1 count 1 2; 1 go 0 2; 1 go 0 3; 1 count 1 -1; 1 count 1 -1; 3 wait 1 0; 2 wait 1 0; 2 print 0 0; 2 end 0 0; 3 print 0 0; 3 end 0 0", "stuck 15 0 [1 3 3]", ""},
	})
}
