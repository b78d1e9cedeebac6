package code_test

import (
	"math"
	"strconv"
	"strings"
	"testing"

	"taskmill/api"
	"taskmill/code"
)

// written is an instruction, and its line.
type written struct {
	i    api.Instr
	line string
}

// lines are instructions of each op, each with the line that it is written as.
func lines() []written {
	return []written{
		{in(api.OpSet, 0, 5), "set r0 5"},
		{in(api.OpSet, 7, 0), "set r7 0"},
		{in(api.OpSet, 1, -1), "set r1 -1"},
		{in(api.OpSet, 2, -120), "set r2 -120"},
		{in(api.OpSet, 3, math.MaxInt), "set r3 9223372036854775807"},
		{in(api.OpSet, 4, math.MinInt), "set r4 -9223372036854775808"},
		{in(api.OpCopy, 0, 7), "copy r0 r7"},
		{in(api.OpAdd, 1, 2), "add r1 r2"},
		{in(api.OpSub, 3, 3), "sub r3 r3"},
		{in(api.OpLess, 4, 5), "less r4 r5"},
		{in(api.OpJump, 0, 0), "jump @0"},
		{in(api.OpJump, 10, 0), "jump @10"},
		{in(api.OpZero, 6, 9), "zero r6 @9"},
		{in(api.OpPrint, 7, 0), "print r7"},
		{in(api.OpEnd, 0, 0), "end"},
		{in(api.OpYield, 0, 0), "yield"},
		{in(api.OpGo, 12, 3), "go @12 r3"},
		{in(api.OpLoad, 2, 19), "load r2 c19"},
		{in(api.OpStore, 18, 1), "store c18 r1"},
		{in(api.OpSend, 17, 0), "send p17 r0"},
		{in(api.OpGet, 5, 16), "get r5 p16"},
		{in(api.OpShut, 15, 0), "shut p15"},
		{in(api.OpLock, 14, 1), "lock l14 1"},
		{in(api.OpLock, 13, 0), "lock l13 0"},
		{in(api.OpUnlock, 12, 0), "unlock l12 0"},
		{in(api.OpUnlock, 11, 1), "unlock l11 1"},
		{in(api.OpCount, 10, 6), "count g10 r6"},
		{in(api.OpWait, 9, 0), "wait g9"},
		{in(api.OpSleep, 4, 0), "sleep r4"},
		{in(api.OpPanic, 0, 0), "panic"},
	}
}

// P11.3: each op's line, alone and all of them one after the other.
func TestText(t *testing.T) {
	p, whole := rich(mostEach), ""
	for _, w := range lines() {
		p.Code = append(p.Code, w.i)
		whole += w.line + "\n"
	}
	got, f := code.Text(p)
	same(t, "all", told(got, f), told(whole, none))
	for _, w := range lines() {
		got, f := code.Text(rich(mostEach, append([]api.Instr{w.i}, ends(20)...)...))
		same(t, w.line, told(got, f), told(w.line+"\n"+strings.Repeat("end\n", 20), none))
	}
}

// P11.3: no code is no text; and there is no end of what a text may have, but what Check says.
func TestTextEdges(t *testing.T) {
	for what, p := range map[string]api.Program{"nothing": nothing, "no code": rich(mostEach)} {
		text, f := code.Text(p)
		same(t, what, told(text, f), told("", none))
	}
	text, f := code.Text(api.Program{Code: ends(mostCode)})
	same(t, "1000 ends", told(text, f), told(strings.Repeat("end\n", mostCode), none))
	long := make([]api.Instr, mostCode)
	for i := range long {
		long[i] = in(api.OpSet, 0, math.MinInt)
	}
	text, f = code.Text(api.Program{Code: long})
	same(t, "a long text", told(text, f), told(strings.Repeat("set r0 "+strconv.Itoa(math.MinInt)+"\n", mostCode), none))
}

// P11.3: a `-` is not written, a 0 of all other kinds is.
func TestTextOfNoughts(t *testing.T) {
	for _, r := range table() {
		want := r.name
		for _, kind := range r.kinds {
			if kind != '-' {
				want += " " + letters()[kind] + "0"
			}
		}
		text, f := code.Text(rich(1, in(r.op, 0, 0)))
		same(t, r.name, told(text, f), told(want+"\n", none))
	}
}
