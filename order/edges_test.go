package order_test

import (
	"strings"
	"testing"
)

// From each event to the next one of its Task.
func TestTaskEdges(t *testing.T) {
	askOrders(t, []ordered{
		{"none", "", nil, ""},
		{"one", "1 print", nil, ""},
		{"two of one task", "1 print; 1 print", nil, "0-1"},
		{"two of two tasks", "1 print; 2 print", nil, ""},
		{"one after the other", "1 print; 1 end; 1 load; 1 store", nil, "0-1 0-2 0-3 1-2 1-3 2-3"},
		{"with others between", "1 print; 2 print; 1 print; 64 print; 2 print; 1 print", nil, "0-2 0-5 1-4 2-5"},
		{"all other ops", "3 yield; 4 yield; 3 sleep; 4 sleep; 3 panic; 4 panic; 3 end; 4 end", nil, "0-2 0-4 0-6 1-3 1-5 1-7 2-4 2-6 3-5 3-7 4-6 5-7"},
		{"a cell makes no edge", "1 store 0 5; 2 load 0 5; 3 store 0 6; 2 store 0 7", nil, "1-3"},
		{"nor does a Value", "1 print 0 2; 2 print 0 1; 1 load 0 2; 2 store 0 1", nil, "0-2 1-3"},
	})
}

// From OpGo to the next event of the task that begins.
func TestGoEdges(t *testing.T) {
	askOrders(t, []ordered{
		{"begins", "1 go 0 2; 2 print", nil, "0-1"},
		{"and goes on", "1 go 0 2; 2 print; 2 print", nil, "0-1 0-2 1-2"},
		{"another one", "1 go 0 2; 3 print", nil, ""},
		{"what is ahead of it", "1 print; 1 go 0 2; 1 print; 2 print", nil, "0-1 0-2 0-3 1-2 1-3"},
		{"the task has events ahead", "2 print; 1 go 0 2; 2 print", nil, "0-2 1-2"},
		{"the task has events ahead alone", "2 print; 2 print; 1 go 0 2", nil, "0-1"},
		{"the task has none at all", "1 go 0 2; 1 print", nil, "0-1"},
		{"the task begins itself", "1 go 0 1; 2 print; 1 print", nil, "0-2"},
		{"the task begins itself, and has none later", "1 print; 1 go 0 1", nil, "0-1"},
		{"begun twice", "1 go 0 3; 2 go 0 3; 3 print", nil, "0-2 1-2"},
		{"begun again, later", "1 go 0 3; 3 print; 2 go 0 3; 3 print", nil, "0-1 0-3 1-3 2-3"},
		{"one begins the next", "1 go 0 2; 2 go 0 3; 3 go 0 4; 4 print", nil, "0-1 0-2 0-3 1-2 1-3 2-3"},
		{"they begin each other", "1 go 0 2; 2 go 0 1; 1 print", nil, "0-1 0-2 1-2"},
		{"by MaxTask, and MaxTask", "64 go 0 1; 1 go 0 64; 64 print", nil, "0-1 0-2 1-2"},
		{"Obj does not matter", "1 go 20 2; 2 go 3 4; 3 print; 4 print", nil, "0-1 0-3 1-3"},
		{"the Value of another op is no task", "1 print 0 2; 1 send 0 2; 1 store 0 2; 1 count 0 2; 2 print", []int{1}, "0-1 0-2 0-3 1-2 1-3 2-3"},
	})
}

// From the send k to the get k; numbers are each pipe's own.
func TestSendEdges(t *testing.T) {
	for _, holds := range []int{3, 4, 99, mostHolds} {
		pipes := []int{holds, holds}
		askOrders(t, []ordered{
			{"one", "1 send; 2 get", pipes, "0-1"},
			{"two, got in their order", "1 send; 2 send; 3 get; 4 get", pipes, "0-2 1-3"},
			{"in turns", "1 send; 2 get; 3 send; 4 get", pipes, "0-1 2-3"},
			{"three", "1 send; 2 send; 3 get; 4 send; 5 get; 6 get", pipes, "0-2 1-4 3-5"},
			{"with what is ahead and behind", "1 print; 1 send; 1 print; 2 print; 2 get; 2 print", pipes, "0-1 0-2 0-4 0-5 1-2 1-4 1-5 3-4 3-5 4-5"},
			{"Values do not matter", "1 send 0 7; 2 send 0 8; 3 get 0 8; 4 get 0 7", pipes, "0-2 1-3"},
			{"by one task", "1 send; 1 get", pipes, "0-1"},
			{"another pipe", "1 send 0; 2 get 1", pipes, ""},
			{"two pipes", "1 send 0; 2 send 1; 3 get 1; 4 get 0", pipes, "0-3 1-2"},
			{"a send without a get", "1 send; 2 send; 3 get", pipes, "0-2"},
			{"and no edge from get to get, nor from send to send", "1 send; 2 send; 3 get; 4 get; 5 send", pipes, "0-2 1-3"},
		})
	}
}

// A get ahead of its send has no edge from it; when it comes all sends have their gets, so that it has no number, and the send's get is the next one.
func TestGetAheadOfItsSend(t *testing.T) {
	for _, holds := range []int{0, 2, 3, mostHolds} {
		pipes := []int{holds}
		askOrders(t, []ordered{
			{"alone", "1 get; 2 send", pipes, ""},
			{"and the next get", "1 get; 2 send; 3 get", pipes, "1-2"},
			{"two of them", "1 get; 2 get; 3 send; 4 get", pipes, "2-3"},
			{"behind a send and its get", "1 send; 2 get; 3 get; 4 send; 5 get", pipes, "0-1 3-4"},
			{"and the sends behind", "1 get; 2 send; 3 send; 4 get; 5 get", pipes, "1-3 2-4"},
		})
	}
	askOrders(t, []ordered{
		{"a pipe that holds 1", "1 get; 2 send; 3 get; 4 send", []int{1}, "1-2 1-3 2-3"},
		{"a pipe that holds 0: the sender's task need not know of it", "1 get; 2 print; 2 send; 3 get; 2 print", []int{0}, "1-2 1-3 1-4 2-3 2-4 3-4"},
	})
}

// From the get k to the send k + c, if the pipe holds c, and c is above 0.
func TestRoomEdges(t *testing.T) {
	askOrders(t, []ordered{
		{"1: the get to the next send", "1 send; 2 get; 3 send", []int{1}, "0-1 0-2 1-2"},
		{"1: in turns", "1 send; 2 get; 3 send; 4 get; 5 send", []int{1}, "0-1 0-2 0-3 0-4 1-2 1-3 1-4 2-3 2-4 3-4"},
		{"1: the get is later than the send", "1 send; 2 send; 3 get", []int{1}, "0-2"},
		{"1: that one is, the next one is not", "1 send; 2 send; 3 get; 4 get; 5 send", []int{1}, "0-2 1-3 1-4 3-4"},
		{"1: with another event between", "1 send; 2 get; 3 print; 4 send", []int{1}, "0-1 0-3 1-3"},
		{"2: the get 0 to the send 2", "1 send; 2 send; 3 get; 4 send", []int{2}, "0-2 0-3 2-3"},
		{"2: not to the send 1", "1 send; 2 get; 3 send", []int{2}, "0-1"},
		{"2: nor to the send 3", "1 send; 2 send; 3 send; 4 get; 5 send", []int{2}, "0-3"},
		{"2: the get 1 to the send 3", "1 send; 2 send; 3 get; 4 get; 5 send; 6 send", []int{2}, "0-2 0-4 1-3 1-5 2-4 3-5"},
		{"2: both", "1 send; 2 get; 3 send; 4 get; 5 send; 6 send", []int{2}, "0-1 0-4 1-4 2-3 2-5 3-5"},
		{"3: the get 0 to the send 3", "1 send; 2 send; 3 send; 4 get; 5 send", []int{3}, "0-3 0-4 3-4"},
		{"3: not to one ahead", "1 send; 2 send; 3 get; 4 send", []int{3}, "0-2"},
		{"another pipe's get", "1 send 0; 2 get 0; 3 send 1; 4 send 0", []int{1, 1}, "0-1 0-3 1-3"},
		{"each pipe holds its own", "1 send 0; 2 get 0; 3 send 0; 4 send 1; 5 get 1; 6 send 1", []int{1, 2}, "0-1 0-2 1-2 3-4"},
		{"a get without a number makes no room", "1 get; 2 send; 3 send", []int{1}, ""},
		{"nor counts it", "1 get; 2 send; 3 get; 4 send", []int{1}, "1-2 1-3 2-3"},
	})
}

// The most that a pipe may hold: from the get 0 to the send 100, from the get 1 to the send 101.
func TestRoomOfAHundred(t *testing.T) {
	hundred := strings.Repeat("2 send; ", mostHolds)
	trace := events(hundred + "3 get; 4 send; 5 send; 6 get; 7 send")
	for pair, want := range map[[2]int]bool{
		{0, 100}: true, {1, 100}: false, {0, 101}: true, {1, 101}: false, {100, 101}: true,
		{100, 102}: false, {100, 103}: false, {100, 104}: false,
		{1, 103}: true, {2, 103}: false, {103, 104}: false,
	} {
		same(t, told("a pipe of 100:", pair), happens(t, trace, []int{mostHolds}, pair[0], pair[1]), want)
	}
	same(t, "a pipe of 99", happens(t, trace, []int{mostHolds - 1}, 100, 101), false)
}

// If the pipe holds 0: from the get k to the next event of the task of the send k behind that get.
func TestMeetingEdges(t *testing.T) {
	none := []int{0}
	askOrders(t, []ordered{
		{"the sender's next event", "1 send; 2 get; 1 print", none, "0-1 0-2 1-2"},
		{"and those behind", "1 send; 2 get; 1 print; 1 print", none, "0-1 0-2 0-3 1-2 1-3 2-3"},
		{"not one between", "1 send; 1 print; 2 get; 1 print", none, "0-1 0-2 0-3 1-3 2-3"},
		{"none later", "1 send; 1 print; 2 get", none, "0-1 0-2"},
		{"not that of others", "1 send; 2 get; 3 print; 2 print", none, "0-1 0-3 1-3"},
		{"nor the next send of another one", "1 send; 2 get; 3 send", none, "0-1"},
		{"with what the getter did ahead", "2 store; 1 send; 2 get; 1 load", none, "0-2 0-3 1-2 1-3 2-3"},
		{"of the send with the same number", "1 send; 2 send; 3 get; 2 print; 1 print", none, "0-2 0-4 1-3 2-4"},
		{"of each", "1 send; 2 send; 3 get; 4 get; 1 print; 2 print", none, "0-2 0-4 1-3 1-5 2-4 3-5"},
		{"the sender gets itself", "1 send; 1 get; 1 print", none, "0-1 0-2 1-2"},
		{"the sender's next event is a send", "1 send; 2 get; 1 send; 3 get", none, "0-1 0-2 0-3 1-2 1-3 2-3"},
		{"the sender's next event is another pipe's", "1 send 0; 2 get 0; 1 send 1; 3 get 1", []int{0, 1}, "0-1 0-2 0-3 1-2 1-3 2-3"},
		{"a get without a number", "1 send; 2 get; 3 get; 1 print", none, "0-1 0-3 1-3"},
		{"a pipe that holds 1 has none", "1 send; 2 get; 1 print", []int{1}, "0-1 0-2"},
		{"a pipe that holds 100 has none", "1 send; 2 get; 1 print", []int{100}, "0-1 0-2"},
		{"each pipe holds its own", "1 send 1; 2 get 1; 1 print; 3 send 0; 4 get 0; 3 print", []int{1, 0}, "0-1 0-2 1-2 3-4 3-5"},
	})
}

// From the last OpShut ahead of it to a get that is not numbered.
func TestShutEdges(t *testing.T) {
	for _, holds := range []int{0, 1, 2, mostHolds} {
		pipes := []int{holds, holds}
		askOrders(t, []ordered{
			{"closed and empty", "1 shut; 2 get", pipes, "0-1"},
			{"without one ahead", "2 get; 1 shut", pipes, ""},
			{"without any", "1 get; 2 get", pipes, ""},
			{"each get", "1 shut; 2 get; 3 get", pipes, "0-1 0-2"},
			{"another pipe's", "1 shut 1; 2 get 0", pipes, ""},
			{"the last of two", "1 shut; 2 shut; 3 get", pipes, "1-2"},
			{"the last of three, one of them behind", "1 shut; 2 shut; 3 get; 4 shut; 5 get", pipes, "1-2 3-4"},
			{"a get with a number has none", "1 send; 2 shut; 3 get", pipes, "0-2"},
			{"the one behind it has", "1 send; 2 shut; 3 get; 4 get", pipes, "0-2 1-3"},
			{"what is ahead of the shut", "1 send; 1 shut; 2 get; 3 get", pipes, "0-1 0-2 0-3 1-3"},
			{"not from the gets ahead", "1 shut; 2 get; 3 get; 3 print", pipes, "0-1 0-2 0-3 2-3"},
			{"a shut has no edge from sends and gets", "1 send; 2 get; 3 shut; 4 get", pipes, "0-1 2-3"},
			{"a send behind it has its get", "1 shut; 2 send; 3 get; 4 get", pipes, "0-3 1-2"},
		})
	}
}

// Of each lock, from each OpUnlock to each later OpLock, unless both have a Value other than 1.
func TestLockEdges(t *testing.T) {
	askOrders(t, []ordered{
		{"write, write", "1 unlock 0 1; 2 lock 0 1", nil, "0-1"},
		{"write, read", "1 unlock 0 1; 2 lock 0 0", nil, "0-1"},
		{"read, write", "1 unlock 0 0; 2 lock 0 1", nil, "0-1"},
		{"read, read", "1 unlock 0 0; 2 lock 0 0", nil, ""},
		{"2 and -1 are not 1", "1 unlock 0 2; 2 lock 0 -1; 3 lock 0 2; 4 lock 0 0", nil, ""},
		{"2 and 1", "1 unlock 0 2; 2 lock 0 1", nil, "0-1"},
		{"1 and 2", "1 unlock 0 1; 2 lock 0 2", nil, "0-1"},
		{"the lock is ahead", "1 lock 0 1; 2 unlock 0 1", nil, ""},
		{"two locks of it", "1 lock 0 1; 2 lock 0 1; 3 lock 0 0; 4 lock 0 0", nil, ""},
		{"two unlocks of it", "1 unlock 0 1; 2 unlock 0 1; 3 unlock 0 0", nil, ""},
		{"two locks", "1 unlock 0 1; 2 lock 1 1; 3 lock 20 1", nil, ""},
		{"the last lock there may be", "1 unlock 20 1; 2 lock 20 1; 3 lock 19 1", nil, "0-1"},
		{"to each later one", "1 unlock 0 1; 2 lock 0 1; 3 lock 0 0; 4 lock 0 1", nil, "0-1 0-2 0-3"},
		{"from each", "1 unlock 0 1; 2 unlock 0 0; 3 unlock 0 1; 4 lock 0 1", nil, "0-3 1-3 2-3"},
		{"from each that writes", "1 unlock 0 1; 2 unlock 0 0; 3 unlock 0 1; 4 lock 0 0", nil, "0-3 2-3"},
		{"readers ahead and behind a writer", "1 unlock 0 0; 2 lock 0 1; 2 unlock 0 1; 3 lock 0 0", nil, "0-1 0-2 0-3 1-2 1-3 2-3"},
		{"readers beside each other", "1 lock 0 0; 2 lock 0 0; 1 unlock 0 0; 3 lock 0 0; 2 unlock 0 0; 4 lock 0 1", nil, "0-2 0-5 1-4 1-5 2-5 4-5"},
		{"what is done while it is held", "1 lock 0 1; 1 store; 1 unlock 0 1; 2 lock 0 1; 2 store; 2 unlock 0 1", nil, "0-1 0-2 0-3 0-4 0-5 1-2 1-3 1-4 1-5 2-3 2-4 2-5 3-4 3-5 4-5"},
		{"what is done behind it", "1 unlock 0 1; 1 store; 2 lock 0 1", nil, "0-1 0-2"},
		{"a group of the same number", "1 unlock 0 1; 2 wait 0; 3 count 0; 4 lock 0 1", nil, "0-3"},
	})
}

// Of each group, from each OpCount to each later OpWait.
func TestGroupEdges(t *testing.T) {
	askOrders(t, []ordered{
		{"one", "1 count 0 -1; 2 wait 0", nil, "0-1"},
		{"whatever is added", "1 count 0 1; 2 count 0 0; 3 count 0 -5; 4 wait 0", nil, "0-3 1-3 2-3"},
		{"to each later one", "1 count; 2 wait; 3 wait; 4 count; 5 wait", nil, "0-1 0-2 0-4 3-4"},
		{"the wait is ahead", "1 wait; 2 count", nil, ""},
		{"two counts", "1 count; 2 count", nil, ""},
		{"two waits", "1 wait; 2 wait", nil, ""},
		{"two groups", "1 count 0; 2 wait 1; 3 wait 20", nil, ""},
		{"the last group there may be", "1 count 20; 2 wait 20; 3 wait 19", nil, "0-1"},
		{"a wait's Value does not matter", "1 count 0 1; 2 wait 0 5; 3 wait 0 -1", nil, "0-1 0-2"},
		{"what is ahead and behind", "1 store; 1 count; 1 store; 2 load; 2 wait; 2 load", nil, "0-1 0-2 0-4 0-5 1-2 1-4 1-5 3-4 3-5 4-5"},
	})
}

// Edges of several kinds lead on, one after the other.
func TestEdgesOneAfterTheOther(t *testing.T) {
	askOrders(t, []ordered{
		{"go, send, lock, count", "1 go 0 2; 2 send; 3 get; 3 unlock 0 1; 4 lock 0 0; 4 count; 5 wait", []int{1},
			"0-1 0-2 0-3 0-4 0-5 0-6 1-2 1-3 1-4 1-5 1-6 2-3 2-4 2-5 2-6 3-4 3-5 3-6 4-5 4-6 5-6"},
		{"shut, and a meeting", "1 shut 1; 2 get 1; 3 send 0; 2 get 0; 3 go 0 4; 4 print", []int{0, 1},
			"0-1 0-3 0-4 0-5 1-3 1-4 1-5 2-3 2-4 2-5 3-4 3-5 4-5"},
		{"room, and what another one did ahead of its get", "1 send; 2 store; 2 get; 3 send; 3 load", []int{1},
			"0-2 0-3 0-4 1-2 1-3 1-4 2-3 2-4 3-4"},
		{"two ways to the same event", "1 go 0 2; 1 count; 2 count; 3 wait", nil, "0-1 0-2 0-3 1-3 2-3"},
		{"what comes by one way alone", "1 print; 1 go 0 2; 1 print; 1 send; 2 print; 2 get; 2 print", []int{2},
			"0-1 0-2 0-3 0-4 0-5 0-6 1-2 1-3 1-4 1-5 1-6 2-3 2-5 2-6 3-5 3-6 4-5 4-6 5-6"},
		{"that leads to neither", "1 send 0; 2 send 1; 3 get 0; 4 get 1; 3 print; 4 print", []int{1, 1}, "0-2 0-4 1-3 1-5 2-4 3-5"},
	})
}
