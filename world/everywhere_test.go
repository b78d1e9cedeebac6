package world_test

import (
	"fmt"
	"math"
	"math/rand"
	"slices"
	"testing"

	"taskmill/api"
	"taskmill/world"
)

// askPlay asks for what the document's words say, twice.
func askPlay(t *testing.T, p api.Program, procs int, script []int) (api.Report, api.Fault) {
	t.Helper()
	want, wantF := playByTheWords(p, procs, script)
	for range 2 {
		got, f := world.Play(p, procs, script)
		if f != wantF || fmt.Sprint(got) != fmt.Sprint(want) {
			t.Fatalf("program %v\nprocs %d, script %v\n got %v %v\nwant %v %v", p, procs, script, got, f, want, wantF)
		}
	}
	return want, wantF
}

// ops are those of random programs, by how often they come.
func ops(r *rand.Rand) int {
	list := []int{
		api.OpSet, api.OpSet, api.OpSet, api.OpCopy, api.OpAdd, api.OpSub, api.OpLess, api.OpJump, api.OpZero, api.OpZero,
		api.OpPrint, api.OpYield, api.OpYield, api.OpGo, api.OpGo, api.OpGo, api.OpLoad, api.OpStore,
		api.OpSend, api.OpSend, api.OpSend, api.OpSend, api.OpGet, api.OpGet, api.OpGet, api.OpGet,
		api.OpLock, api.OpLock, api.OpUnlock, api.OpCount, api.OpCount, api.OpWait, api.OpWait, api.OpSleep, api.OpSleep,
	}
	switch r.Intn(40) {
	case 0:
		return api.OpPanic
	case 1:
		return api.OpEnd
	case 2:
		return api.OpShut
	}
	return list[r.Intn(len(list))]
}

// value is one that OpSet sets: mostly a small one, which is slept, counted and held against 0.
func value(r *rand.Rand) int {
	far := []int{api.MaxNum, api.MaxNum + 1, -api.MaxNum, -api.MaxNum - 1, math.MaxInt, math.MinInt}
	if r.Intn(30) == 0 {
		return far[r.Intn(len(far))]
	}
	return r.Intn(6) - 1
}

// anyProgram is a right one, with few things, so that tasks meet at them.
func anyProgram(r *rand.Rand) api.Program {
	p := api.Program{Cells: 1 + r.Intn(2), Locks: 1 + r.Intn(2), Groups: 1 + r.Intn(2)}
	for range 1 + r.Intn(2) {
		p.Pipes = append(p.Pipes, r.Intn(4)/2*r.Intn(3))
	}
	many := 2 + r.Intn(14)
	for len(p.Code) < many {
		p.Code = append(p.Code, anyPiece(r, p, many)...)
	}
	p.Code = p.Code[:many]
	for at := range min(r.Intn(4), many) { // so that there are several tasks in most runs
		p.Code[at] = in(api.OpGo, r.Intn(many), r.Intn(8))
	}
	return p
}

// anyPiece is an instruction, or one that is done while a lock is held: an unlock alone mostly panics.
func anyPiece(r *rand.Rand, p api.Program, many int) []api.Instr {
	i := anyInstr(r, p, many)
	if r.Intn(6) > 0 {
		return []api.Instr{i}
	}
	lock, write := r.Intn(p.Locks), r.Intn(2)
	return []api.Instr{in(api.OpLock, lock, write), i, in(api.OpUnlock, lock, write)}
}

func anyInstr(r *rand.Rand, p api.Program, many int) api.Instr {
	register := func() int { return r.Intn(3) + r.Intn(2)*5*r.Intn(2) }
	switch op := ops(r); op {
	case api.OpSet:
		return in(op, register(), value(r))
	case api.OpCopy, api.OpAdd, api.OpSub, api.OpLess:
		return in(op, register(), register())
	case api.OpJump:
		return in(op, r.Intn(many), 0)
	case api.OpZero:
		return in(op, register(), r.Intn(many))
	case api.OpPrint, api.OpSleep:
		return in(op, register(), 0)
	case api.OpGo:
		return in(op, r.Intn(many), register())
	case api.OpLoad:
		return in(op, register(), r.Intn(p.Cells))
	case api.OpStore:
		return in(op, r.Intn(p.Cells), register())
	case api.OpSend:
		return in(op, r.Intn(len(p.Pipes)), register())
	case api.OpGet:
		return in(op, register(), r.Intn(len(p.Pipes)))
	case api.OpShut:
		return in(op, r.Intn(len(p.Pipes)), 0)
	case api.OpLock, api.OpUnlock:
		return in(op, r.Intn(p.Locks), r.Intn(2))
	case api.OpCount:
		return in(op, r.Intn(p.Groups), register())
	case api.OpWait:
		return in(op, r.Intn(p.Groups), 0)
	default:
		return in(op, 0, 0)
	}
}

// anyScript has steps of all processors, and ticks; often the same processor goes on for a while.
func anyScript(r *rand.Rand, procs, many int) []int {
	script := make([]int, many)
	for at := range script {
		switch {
		case r.Intn(8) == 0:
			script[at] = -1
		case at > 0 && r.Intn(2) == 0:
			script[at] = script[at-1]
		default:
			script[at] = r.Intn(procs)
		}
	}
	return script
}

func anyProcs(r *rand.Rand) int {
	if r.Intn(4) == 0 {
		return 1 + r.Intn(mostProcs)
	}
	return 1 + r.Intn(3)
}

// P12.1, at programs and scripts of all kinds: what the document's words say.
func TestAnyPrograms(t *testing.T) {
	r := rand.New(rand.NewSource(21))
	ends, events := map[int]int{}, map[int]int{}
	const times = 30000
	for range times {
		p, procs := anyProgram(r), anyProcs(r)
		many := r.Intn(80)
		if r.Intn(20) == 0 {
			many = r.Intn(1200)
		}
		report, _ := askPlay(t, p, procs, anyScript(r, procs, many))
		ends[report.State]++
		for _, e := range report.Trace {
			events[e.Op]++
		}
	}
	for state := api.Going; state <= api.Full; state++ {
		if ends[state] < times/200 {
			t.Errorf("runs do not end in all ways: %v", ends)
		}
	}
	for op := range names() {
		if events[op] < times/50 {
			t.Errorf("not all events come: %v", events)
		}
	}
}

// P12.1, at all scripts of some programs in which tasks meet: what the document's words say.
func TestAllScripts(t *testing.T) {
	codes := []string{
		"go @5 r0; go @5 r0; send p3 r0; send p3 r0; end; get r0 p3; end",
		"go @5 r0; go @5 r0; get r0 p3; get r0 p3; end; send p3 r0; end",
		"go @5 r0; go @5 r0; get r0 p1; get r0 p1; end; send p1 r0; send p1 r0; end",
		"go @4 r0; go @4 r0; shut p1; end; send p1 r0; send p1 r0",
		"go @4 r0; lock l0 1; unlock l0 1; jump @4; lock l0 0; unlock l0 0; end",
		"set r1 1; count g0 r1; go @7 r0; go @7 r0; set r1 -1; count g0 r1; wait g0; wait g0; yield; wait g0; end",
		"set r1 1; go @4 r1; go @4 r1; sleep r1; sleep r1; print r1; end",
	}
	for _, text := range codes {
		p := coded(t, text)
		var all func(script []int, left int)
		all = func(script []int, left int) {
			if left == 0 {
				askPlay(t, p, 2, script)
				return
			}
			for e := -1; e < 2; e++ {
				all(append(script, e), left-1)
			}
		}
		all(nil, 7)
		all(entries("0*3"), 7)
		all(entries("0*4 1*2"), 6)
	}
}

// P1: no call panics whatever it is given, and each answers what the document's words say, and the same again.
func TestWildInputs(t *testing.T) {
	r := rand.New(rand.NewSource(22))
	wild := []int{math.MinInt, math.MaxInt, -2, -1, 0, 1, 7, 8, 16, 17, 20, 21, 22, 23, 64, 100, 101, 1 << 32, api.MaxOps}
	spoil := func(n *int) {
		if r.Intn(60) == 0 {
			*n = wild[r.Intn(len(wild))]
		}
	}
	codes := map[int]int{}
	const times = 20000
	for range times {
		p, procs := anyProgram(r), anyProcs(r)
		script := anyScript(r, procs, r.Intn(40))
		for at := range p.Code {
			if r.Intn(8) == 0 {
				spoil(&p.Code[at].Op)
				spoil(&p.Code[at].A)
				spoil(&p.Code[at].B)
			}
		}
		for at := range p.Pipes {
			spoil(&p.Pipes[at])
		}
		for _, n := range []*int{&p.Cells, &p.Locks, &p.Groups, &procs} {
			spoil(n)
		}
		if len(script) > 0 {
			spoil(&script[r.Intn(len(script))])
		}
		_, f := askPlay(t, p, procs, script)
		codes[f.Code]++
	}
	for _, code := range []int{api.OK, api.ErrRange, api.ErrSize, api.ErrKind, api.ErrForm} {
		if codes[code] < times/1000 {
			t.Errorf("not all kinds were asked: %v", codes)
		}
	}
}

// P1: every call ends, also with as much as may be given.
func TestLongRuns(t *testing.T) {
	const maxTasks = "go @3 r0; jump @0; end; yield; jump @3"
	spawn := "set r1 63; set r2 -1; go @6 r0; add r1 r2; zero r1 @6; jump @2; "
	for _, text := range []string{
		"jump @0", "yield; jump @0", "print r0; jump @0", maxTasks,
		spawn + "yield; jump @6",
		spawn + "send p1 r0; get r0 p1; jump @6",
		spawn + "lock l0 1; yield; unlock l0 1; jump @6",
		spawn + "set r1 3; sleep r1; jump @6",
	} {
		r := rand.New(rand.NewSource(23))
		p := coded(t, text)
		for len(p.Code) < 1000 {
			p.Code = append(p.Code, in(api.OpEnd, 0, 0))
		}
		for _, procs := range []int{1, 2, mostProcs} {
			askPlay(t, p, procs, slices.Concat(make([]int, 300), anyScript(r, procs, api.MaxOps-300)))
		}
	}
}
