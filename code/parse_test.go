package code_test

import (
	"math"
	"strings"
	"testing"

	"taskmill/api"
	"taskmill/code"
)

// P11.4: each op's line, alone and all of them one after the other.
func TestParse(t *testing.T) {
	whole, all := "", []api.Instr{}
	for _, w := range lines() {
		whole += w.line + "\n"
		all = append(all, w.i)
		list, f := code.Parse(w.line + "\n")
		same(t, w.line, told(list, f), told([]api.Instr{w.i}, none))
		list, f = code.Parse(whole)
		same(t, "up to "+w.line, told(list, f), told(all, none))
	}
}

// P11.4: what is read need not be of a program that Check says nothing of: all numbers are read of all kinds.
func TestParseAnyNumbers(t *testing.T) {
	numbers := map[string]int{
		"0": 0, "1": 1, "-1": -1, "2": 2, "7": 7, "8": 8, "10": 10, "20": 20, "-20": -20, "100": 100, "1000": 1000, "909": 909,
		"9223372036854775807": math.MaxInt, "9223372036854775806": math.MaxInt - 1,
		"-9223372036854775808": math.MinInt, "-9223372036854775807": math.MinInt + 1,
	}
	for _, r := range table() {
		for one, a := range numbers {
			for other, b := range numbers {
				line, want := r.name, in(r.op, 0, 0)
				if r.kinds[0] != '-' {
					line, want.A = line+" "+letters()[r.kinds[0]]+one, a
				}
				if r.kinds[1] != '-' {
					line, want.B = line+" "+letters()[r.kinds[1]]+other, b
				}
				list, f := code.Parse(line + "\n")
				same(t, line, told(list, f), told([]api.Instr{want}, none))
			}
		}
	}
}

// P11.4: an empty text, and so many lines as a text can have.
func TestParseEdges(t *testing.T) {
	list, f := code.Parse("")
	same(t, "empty", told(list, f), told([]api.Instr{}, none))

	list, f = code.Parse(strings.Repeat("end\n", api.MaxText/4))
	same(t, "MaxText bytes", told(list, f), told(ends(api.MaxText/4), none))
	many := fault(api.ErrMany, 0)
	for what, text := range map[string]string{
		"one more":                    strings.Repeat("end\n", api.MaxText/4-2) + "print r0\n",
		"one more line":               strings.Repeat("end\n", api.MaxText/4+1),
		"ahead of what is not so":     strings.Repeat("\n", api.MaxText+1),
		"ahead of what is not ended":  strings.Repeat("end\n", api.MaxText/4) + "e",
		"far more":                    strings.Repeat("end\n", api.MaxText),
		"one word":                    strings.Repeat("x", api.MaxText+1),
		"one long number, not so":     "set r0 " + strings.Repeat("9", api.MaxText) + "\n",
		"blanks":                      strings.Repeat(" ", api.MaxText+1),
		"letters that are many bytes": strings.Repeat("ü", api.MaxText/2+1),
	} {
		list, f := code.Parse(text)
		same(t, what, told(list, f), told([]api.Instr{}, many))
	}
	for what, text := range map[string]string{
		"MaxText bytes, not ended":   strings.Repeat("end\n", api.MaxText/4-1) + "endx",
		"MaxText bytes, cut":         strings.Repeat("end\n", api.MaxText/4-1) + "end ",
		"MaxText bytes, not so":      strings.Repeat("end\n", api.MaxText/4-1) + "and\n",
		"MaxText bytes, letters ü":   strings.Repeat("end\n", api.MaxText/4-1) + "üü",
		"MaxText bytes, empty lines": strings.Repeat("end\n", api.MaxText/4-1) + "\n\n\n\n",
	} {
		list, f := code.Parse(text)
		same(t, what, told(list, f), told([]api.Instr{}, fault(api.ErrText, api.MaxText/4-1)))
	}
}

// notLines are lines that no instruction is written as.
func notLines() []string {
	list := []string{
		"", " ", "  ", "x", "0", "1", "r0", "@0", "#", ";", "end;", "# end",
		"ends", "en", "nd", "End", "END", "eNd", "sett r0 5", "se r0 5", "Set r0 5", "end0", "9",
		"set  r0 5", "set r0  5", " set r0 5", "set r0 5 ", " end", "end ", "end  ", "  end", "set r0 5  ",
		"\tend", "end\t", "set\tr0\t5", "set r0\t5", "set r0 5\t", "set\u00a0r0 5",
		"set", "set ", "set r0", "set r0 ", "set 5", "set r0 5 6", "set r0 5 r6", "set r0 5 0", "set r0 r5", "set 0 5", "set r0,5", "set r05",
		"end 0", "end 1", "end r0", "yield 0", "panic r0", "panic 0 0", "jump", "jump 0", "jump @", "jump @0 0", "jump @0 @0", "jump r0", "jump c0",
		"print", "print 0", "print r0 0", "print r0 r0", "print @0", "wait g0 0", "wait g0 r0", "wait", "wait 0", "sleep r0 1", "sleep 1", "shut p0 0", "shut r0", "shut 0",
		"copy r0", "copy r0 0", "copy 0 r0", "copy r0 r0 r0", "copy r0 c0", "copy r0r0", "copy r0 @0", "copy",
		"zero r0 0", "zero r0 r0", "zero @0 r0", "zero @0 @0", "zero r0 c0", "go r0 @0", "go @0", "go 0 r0", "go @0 0", "go @0 @0", "go c0 r0",
		"load r0 0", "load r0 m0", "load c0 r0", "load r0 @0", "load r0 r0", "store r0 c0", "store m0 r0", "store @0 r0", "store 0 r0", "store c0 0", "store c0 c0",
		"send r0 p0", "send p0 0", "send 0 r0", "send p0", "send p0 p0", "send c0 r0", "get p0 r0", "get r0 0", "get r0", "get r0 r0", "get r0 c0",
		"lock l0", "lock 0 1", "lock l0 l1", "lock l0 k1", "lock l0 r1", "lock k0 1", "lock g0 1", "lock l0 w", "unlock l0", "unlock l0 1 1", "unlock 0 1", "unlock l 1",
		"count g0", "count g0 0", "count 0 r0", "count r0 g0", "count l0 r0", "count g0 g0",
		"set r 5", "set r0 -", "set r- 5", "set r0 ", "set r0 +", "set r0 5x", "set r0 x5", "set r0 5.0", "set r0 1e3", "set r0 0x5", "set r0 0b1", "set r0 0o7", "set r0 1_000", "set r0 ５", "set r0 ٣",
		"set r00 5", "set r01 5", "set r0 05", "set r0 00", "set r0 000", "set r0 -0", "set r-0 5", "set r0 -05", "set r0 -00", "set r0 +5", "set r+0 5", "set r0 +0", "set r0 +-5", "set r0 -+5", "set r0 --5", "set r0 - 5", "set r0 5-", "set -r0 5", "set +r0 5", "set 0r 5", "set rr0 5", "set R0 5", "set r 0 5", "set r0 ++5", "set r0 -0x5", "set r0 −5",
		"jump @-0", "jump @+1", "jump @01", "jump @@1", "jump -@1", "lock l0 01", "lock l0 +1", "lock l0 -0", "load r0 c00", "get r0 p+1", "count g-0 r0", "wait g00",
		"set r0 9223372036854775808", "set r0 -9223372036854775809", "set r0 18446744073709551616", "set r0 18446744073709551621", "set r0 -18446744073709551616",
		"set r9223372036854775808 0", "set r-9223372036854775809 0", "jump @9223372036854775808", "lock l0 9223372036854775808", "wait g-9223372036854775809",
		"set r0 99999999999999999999999999999999", "set r0 " + strings.Repeat("9", 3000), "set r0 " + strings.Repeat("0", 3000) + "5",
		"end\r", "\rend", "set r0\r 5", "set r0 5\r", "\r", "end\x00", "\x00", "\x00end", "set\x00r0 5", "end\v", "end\f", "end\x85", "end\u2028",
		"\xff", "end\xff", "\xffend", "set r\xff0 5", "set r0 5\xc3", "\xc3\x28", "énd", "ënd", "e\u0301nd", "end\ufeff", "\ufeffend", "end\u200b", "ｅｎｄ", "世界",
		strings.Repeat(" ", 3000), strings.Repeat("r0 ", 1000), "end" + strings.Repeat(" 0", 1500),
	}
	for _, op := range []string{"load", "get", "lock", "count"} {
		list = append(list, op, op+" ", op+"  ")
	}
	return list
}

// P11.4: a line that is not so, At its number, alone, ahead of, behind and between such as are.
func TestParseNotSo(t *testing.T) {
	for _, line := range notLines() {
		for ahead, text := range []string{line + "\n", "end\n" + line + "\n", "end\nset r0 5\n" + line + "\n"} {
			for _, behind := range []string{"", "end\n", "end", "\n", line + "\n", line} {
				list, f := code.Parse(text + behind)
				same(t, told("line", brief(line), "at", ahead), told(list, f), told([]api.Instr{}, fault(api.ErrText, ahead)))
			}
		}
	}
}

// P11.4: the last line is not ended, At its number; a line that is not so is told ahead of it.
func TestParseNotEnded(t *testing.T) {
	for _, w := range append(lines(), written{line: "x"}, written{line: " "}, written{line: "\r"}) {
		for ahead, text := range []string{"", "end\n", "set r0 5\nend\n"} {
			list, f := code.Parse(text + w.line)
			same(t, told(w.line, "at", ahead), told(list, f), told([]api.Instr{}, fault(api.ErrText, ahead)))
		}
		list, f := code.Parse("end\nx\n" + w.line)
		same(t, "behind what is not so: "+w.line, told(list, f), told([]api.Instr{}, fault(api.ErrText, 1)))
	}
}

// P11.4: of a line that is written so nothing can be left out, put in or put twice, but that it be another such line.
func TestParseOneByte(t *testing.T) {
	known := map[string]struct{}{}
	ask := func(line string) {
		t.Helper()
		want, right := lineByTheWords(line)
		list, f := code.Parse(line + "\n")
		if right {
			same(t, line, told(list, f), told([]api.Instr{want}, none))
			known[line] = struct{}{}
		} else {
			same(t, line, told(list, f), told([]api.Instr{}, fault(api.ErrText, 0)))
		}
	}
	for _, w := range lines() {
		for at := range len(w.line) {
			ask(w.line[:at] + w.line[at+1:])
			ask(w.line[:at] + w.line[at:at+1] + w.line[at:])
			for b := range 256 {
				if b != '\n' {
					ask(w.line[:at] + string([]byte{byte(b)}) + w.line[at+1:])
					ask(w.line[:at] + string([]byte{byte(b)}) + w.line[at:])
				}
			}
		}
	}
	if len(known) < 1000 {
		t.Errorf("%d were written so", len(known))
	}
}
