package code

import (
	"strconv"
	"strings"

	"taskmill/api"
)

// lineOf writes a checked instruction, without a line feed.
func lineOf(i api.Instr) string {
	r := rows[i.Op]
	return r.name + wordOf(r.a, i.A) + wordOf(r.b, i.B)
}

// wordOf writes an argument and the blank ahead of it, or nothing, if it is none.
func wordOf(k kind, n int) string {
	if k == none {
		return ""
	}
	return " " + letters[k] + strconv.Itoa(n)
}

// readLine reads an instruction from a line without its line feed, if it is written so.
func readLine(ops map[string]int, line string) (api.Instr, bool) {
	words := strings.Split(line, " ")
	op, known := ops[words[0]]
	if !known {
		return api.Instr{}, false
	}
	a, rest, rightA := readWord(rows[op].a, words[1:])
	b, rest, rightB := readWord(rows[op].b, rest)
	return api.Instr{Op: op, A: a, B: b}, rightA && rightB && len(rest) == 0
}

// readWord reads an argument from the first of some words, unless it is none: the argument, the words behind, and whether it is written so.
func readWord(k kind, words []string) (int, []string, bool) {
	if k == none {
		return 0, words, true
	}
	if len(words) == 0 {
		return 0, nil, false
	}
	digits, lettered := strings.CutPrefix(words[0], letters[k])
	n, right := readNumber(digits)
	return n, words[1:], lettered && right
}

// readNumber reads a number that is written as it would be told: strconv alone would take a nought or + ahead, too.
func readNumber(digits string) (int, bool) {
	n, err := strconv.Atoi(digits)
	return n, err == nil && strconv.Itoa(n) == digits
}
