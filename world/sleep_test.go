package world_test

import (
	"fmt"
	"math"
	"testing"

	"taskmill/api"
)

// P12.1: OpSleep of a number below 1 is OpYield; above MaxNum it panics; else the task sleeps until now and so much.
func TestSleep(t *testing.T) {
	sleep := func(ticks int) string { return fmt.Sprint("set r1 ", ticks, "; sleep r1; print r0; end") }
	askRuns(t, []run{
		{"of 1", sleep(1), 1, "0*4", "", "going 4 0 [2]", ""},
		{"of 1, a tick later", sleep(1), 1, "0*3 . 0", "1 print 0 0", "going 5 1 [0]", ""},
		{"a tick ahead of it does not count", sleep(1), 1, "0 . 0*3", "", "going 5 1 [2]", ""},
		{"of 3, from 2 on", sleep(3), 1, "0 .*2 0 .*2 0 . 0", "1 print 0 0", "going 9 5 [0]", ""},
		{"of 3, from 2 on, one tick too few", sleep(3), 1, "0 .*2 0 .*2 0*2", "", "going 8 4 [2]", ""},
		{"of MaxNum", sleep(api.MaxNum), 1, "0*2 .*3 0", "", "going 6 3 [2]", ""},
		{"of MaxNum, late", sleep(api.MaxNum), 1, "0 .*4990 0 .*3 0", "", "going 4996 4993 [2]", ""},
		{"of MaxNum and one more", sleep(api.MaxNum + 1), 1, "0*3", "1 panic 0 0", "panics 2 0 [0]", ""},
		{"of the farthest", sleep(math.MaxInt), 1, "0*3", "1 panic 0 0", "panics 2 0 [0]", ""},
		{"it is no event, and so is no tick", sleep(1), 1, "0*2 .*5", "", "going 7 5 [0]", ""},
	})
	for _, ticks := range []int{0, -1, -api.MaxNum, -api.MaxNum - 1, math.MinInt} {
		askRuns(t, []run{
			{"below 1", sleep(ticks), 1, "0*4", "1 print 0 0; 1 end 0 0", "ended 4 0 [3]", ""},
			{"below 1 it lets others go on", fmt.Sprint("set r1 ", ticks, "; go @5 r0; sleep r1; print r0; end; print r0; end"), 1, "0*3 0*9",
				"1 go 0 2; 2 print 0 0; 2 end 0 0; 1 print 0 0; 1 end 0 0", "ended 7 0 [3 3]", ""},
			{"below 1 it comes to the global queue", sleep(ticks), 2, "0*2 1*2", "1 print 0 0; 1 end 0 0", "ended 4 0 [3]", ""},
		})
	}
}

// sleepers has task 1 begin three others, which sleep so long, print and end, and wait for ever itself.
// They fall asleep in the order 4, 2, 3.
func sleepers(second, third, fourth int) string {
	return fmt.Sprint("set r1 ", second, "; set r2 ", third, "; set r3 ", fourth, "; go @7 r1; go @7 r2; go @7 r3; get r0 p0; sleep r0; print r0; end")
}

// P12.1: those who sleep until now come to the end of the global queue: of the same time those first that fell asleep first.
func TestTicks(t *testing.T) {
	const begin = "1 go 0 2; 1 go 0 3; 1 go 0 4"
	const asleep = "0*7 0*3 "
	askRuns(t, []run{
		{"all at once", sleepers(1, 1, 1), 1, asleep + ". 0*9",
			begin + "; 4 print 0 1; 4 end 0 0; 2 print 0 1; 2 end 0 0; 3 print 0 1; 3 end 0 0", "stuck 17 1 [1 3 3 3]", ""},
		{"one of them longer", sleepers(3, 2, 2), 1, asleep + ".*2 0*5 . 0*9",
			begin + "; 4 print 0 2; 4 end 0 0; 3 print 0 2; 3 end 0 0; 2 print 0 3; 2 end 0 0", "stuck 20 3 [1 3 3 3]", ""},
		{"in another order than they fell asleep", sleepers(2, 1, 3), 1, asleep + ".*3 0*9",
			begin + "; 3 print 0 1; 3 end 0 0; 2 print 0 2; 2 end 0 0; 4 print 0 3; 4 end 0 0", "stuck 19 3 [1 3 3 3]", ""},
		{"in that order, behind the last tick", sleepers(2, 3, 1), 1, asleep + ".*9 0*9",
			begin + "; 4 print 0 1; 4 end 0 0; 2 print 0 2; 2 end 0 0; 3 print 0 3; 3 end 0 0", "stuck 25 9 [1 3 3 3]", ""},
		{"states by the way", sleepers(2, 1, 3), 1, asleep + ".*2 0",
			begin + "; 3 print 0 1", "going 13 2 [1 0 0 2]", ""},
		{"nobody yet", sleepers(4, 4, 4), 1, asleep + ".*3 0*2", begin, "going 15 3 [1 2 2 2]", ""},
	})
	askRuns(t, []run{
		{"until the same tick, having fallen asleep at two", "set r1 2; set r2 1; go @5 r2; sleep r1; end; yield; sleep r0; print r0; end", 1, "0*4 0 . 0 . 0*2",
			"1 go 0 2; 1 end 0 0", "ended 9 2 [3 0]", ""},
		{"behind those who are in the global queue", "set r1 1; go @4 r1; yield; end; sleep r0; print r0; end", 1, "0*3 0 . 0",
			"1 go 0 2; 1 end 0 0", "ended 6 1 [3 0]", ""},
		{"ahead of those who come later", "set r1 1; go @5 r1; print r0; yield; end; sleep r0; print r0; end", 2, "0*2 1 . 0*2 0*2 0",
			"1 go 0 2; 1 print 0 0; 2 print 0 1; 2 end 0 0; 1 end 0 0", "ended 9 1 [3 3]", ""},
		{"a second time", "set r1 1; sleep r1; print r1; sleep r1; print r1", 1, "0*2 . 0*3 . 0*2",
			"1 print 0 1; 1 print 0 1; 1 end 0 0", "ended 9 2 [3]", ""},
	})
}
