package utf_test

import (
	"fmt"
	"math"
	"slices"
	"strings"
	"testing"

	"taskmill/api"
	"taskmill/utf"
)

// What the chapter names, and package api does not.
const (
	lastLetter = 1114111
	firstGap   = 55296 // from here on there are no letters
	lastGap    = 57343 // up to here
	instead    = 65533 // is read where there is no letter, and written of what is none
)

func fault(code, at int) api.Fault { return api.Fault{Code: code, At: at} }

var none = api.Fault{}

// text is one of these bytes.
func text(numbers ...int) string {
	var list []byte
	for _, number := range numbers {
		list = append(list, byte(number))
	}
	return string(list)
}

// lettersOf are the letters of pairs that Range answers.
func lettersOf(read [][2]int) []int {
	var list []int
	for _, one := range read {
		list = append(list, one[1])
	}
	return list
}

// many is a list of the same number, so often.
func many(number, often int) []int { return slices.Repeat([]int{number}, often) }

// edges are the letters of the chapter's bounds.
func edges() []int {
	return []int{0, 1, 126, 127, 128, 129, 2046, 2047, 2048, 2049, 55294, 55295, 57344, 57345, 65532, 65533, 65534, 65535, 65536, 65537, 1114110, 1114111}
}

// noLetters are numbers that are none, far and near, of which many would be letters if they were cut to 32 bits or fewer.
func noLetters() []int {
	list := []int{55296, 55297, 56319, 56320, 57342, 57343, 1114112, 1114113, 2097151, 2097152, math.MinInt, math.MinInt + 1, math.MaxInt - 1, math.MaxInt, -1114111, -256, -128, -97, -2, -1}
	for _, high := range []int{1 << 31, 1 << 32, 1 << 33, 1 << 40, 1 << 62, math.MinInt} {
		for _, low := range []int{0, 65, 97, 127, 128, 228, 8364, instead, 65536, lastLetter} {
			list = append(list, high+low, -high+low, -high-low)
		}
	}
	return list
}

// far are places far and near, of which many are limits, or just beyond.
func far() []int {
	list := []int{math.MinInt, math.MinInt + 1, -20001, -5001, -5000, -3, -2, -1, 0, 1, 2, 3, 4, 5, 4999, 5000, 5001, 19999, 20000, 20001}
	for _, n := range []int{1 << 31, 1 << 32, 1 << 62} {
		list = append(list, -n-1, -n, -n+1, -n+2, n-1, n, n+1, n+2)
	}
	return append(list, math.MaxInt-1, math.MaxInt)
}

func askRange(t *testing.T, what, text string, want [][2]int, f api.Fault) {
	t.Helper()
	got, g := utf.Range(text)
	if slices.Equal(got, want) && g == f {
		return // most tests are many of these: telling them takes long
	}
	same(t, fmt.Sprintf("%s: range of % .300x", what, text), told(g, got), told(f, want))
}

func askValid(t *testing.T, what, text string, want bool, at int, f api.Fault) {
	t.Helper()
	got, place, g := utf.Valid(text)
	if got == want && place == at && g == f {
		return
	}
	same(t, fmt.Sprintf("%s: valid % .300x", what, text), told(g, got, place), told(f, want, at))
}

func askWrite(t *testing.T, what string, letters []int, want string, f api.Fault) {
	t.Helper()
	got, g := utf.Write(letters)
	if got == want && g == f {
		return
	}
	same(t, fmt.Sprintf("%s: write %.300s", what, fmt.Sprint(letters)), told(g, []byte(got)), told(f, []byte(want)))
}

func askTurn(t *testing.T, what, text, want string, f api.Fault) {
	t.Helper()
	got, g := utf.Turn(text)
	if got == want && g == f {
		return
	}
	same(t, fmt.Sprintf("%s: turn % .300x", what, text), told(g, []byte(got)), told(f, []byte(want)))
}

func askCut(t *testing.T, what, text string, from, to int, want string, f api.Fault) {
	t.Helper()
	got, g := utf.Cut(text, from, to)
	if got == want && g == f {
		return
	}
	same(t, fmt.Sprintf("%s: cut %d, %d of % .300x", what, from, to, text), told(g, []byte(got)), told(f, []byte(want)))
}

// askRead asks what all that is of letters alone answers of a text: where each is read, and which one; stray is where the first byte is that is part of no letter, or -1.
func askRead(t *testing.T, what, text string, stray int, want ...[2]int) {
	t.Helper()
	askRange(t, what, text, want, none)
	askValid(t, what, text, stray < 0, max(0, stray), none)
	turned := lettersOf(want)
	slices.Reverse(turned)
	askTurn(t, what, text, writeByTheWords(turned), none)
	marks := append(slices.Clone(want), [2]int{len(text)})
	for from, one := range marks {
		for to, other := range marks[from:] {
			askCut(t, what, text, from, from+to, text[one[0]:other[0]], none)
		}
	}
	askCut(t, what, text, 0, len(marks), "", fault(api.ErrRange, 0))
	askCut(t, what, text, len(marks), len(marks), "", fault(api.ErrRange, 0))
}

// tooLong are texts of more than MaxText bytes, with as many letters and with fewer.
func tooLong() []string {
	return []string{
		strings.Repeat("a", api.MaxText+1),
		strings.Repeat("a", 3*api.MaxText),
		strings.Repeat("\x00", api.MaxText+1),
		strings.Repeat("\xff", api.MaxText+1),
		strings.Repeat("\u00e4", api.MaxText/2+1),
		strings.Repeat("\u20ac", api.MaxText/3+1),
		strings.Repeat("\U0001f600", api.MaxText/4+1),
		strings.Repeat("\U0001f600", api.MaxText/4) + "a",
		"\xff" + strings.Repeat("\U0001f600", api.MaxText/4),
	}
}

func told(parts ...any) string { return fmt.Sprintln(parts...) }

// same holds two things against each other as they are told: nil and empty lists are the same.
func same(t *testing.T, what string, got, want any) {
	t.Helper()
	if g, w := fmt.Sprint(got), fmt.Sprint(want); g != w {
		t.Errorf("%s:\n got %.1500s\nwant %.1500s", what, g, w)
	}
}
