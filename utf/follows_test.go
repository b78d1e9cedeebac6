package utf_test

import (
	"math/rand"
	"slices"
	"strings"
	"testing"

	"taskmill/api"
	"taskmill/utf"
)

// rangeOf, writeOf, turnOf and cutOf are what is answered where nothing is wrong.
func rangeOf(t *testing.T, text string) [][2]int {
	t.Helper()
	read, f := utf.Range(text)
	same(t, "range", f, none)
	return read
}

func writeOf(t *testing.T, letters []int) string {
	t.Helper()
	written, f := utf.Write(letters)
	same(t, "write", f, none)
	return written
}

func turnOf(t *testing.T, text string) string {
	t.Helper()
	turned, f := utf.Turn(text)
	same(t, "turn", f, none)
	return turned
}

func cutOf(t *testing.T, text string, from, to int) string {
	t.Helper()
	part, f := utf.Cut(text, from, to)
	same(t, "cut", f, none)
	return part
}

// The chapter's example.
func TestExamples(t *testing.T) {
	askRange(t, "example", text(195, 164, 255), [][2]int{{0, 228}, {2, 65533}}, none)
}

// What follows: of what is Valid, Write of Range's letters is the text, and Turn of Turn is.
func TestOfWhatIsValid(t *testing.T) {
	r := rand.New(rand.NewSource(575))
	for range 20000 {
		one := anyText(r)
		back := writeOf(t, lettersOf(rangeOf(t, one)))
		twice := turnOf(t, turnOf(t, one))
		same(t, "write of range's letters, and turn of turn", back, twice)
		if is, _, _ := utf.Valid(one); is != (back == one) {
			t.Errorf("% x: is it valid: %v; written again: % x", one, is, back)
		}
		askValid(t, "what was written", back, true, 0, none)
		askValid(t, "what was turned", turnOf(t, one), true, 0, none)
	}
	for _, most := range []int{0, 1, 4999, api.MaxList} {
		for range 30 {
			letters := make([]int, most)
			for i := range letters {
				letters[i] = anyLetter(r)
			}
			one := writeOf(t, letters)
			askValid(t, "many letters", one, true, 0, none)
			same(t, "many letters", lettersOf(rangeOf(t, one)), letters)
			if turnOf(t, turnOf(t, one)) != one {
				t.Errorf("turn of turn of many letters: % .300x", one)
			}
		}
	}
}

// Turn of Turn is the text also where there are more letters than Write takes; Write's ErrMany is told of these.
func TestOfManyLetters(t *testing.T) {
	for _, one := range []string{strings.Repeat("ab", 10000), strings.Repeat("\u00e4b", 6666), strings.Repeat("a", 5001)} {
		askValid(t, "more letters", one, true, 0, none)
		if turnOf(t, turnOf(t, one)) != one {
			t.Errorf("turn of turn of many letters: % .300x", one)
		}
		askWrite(t, "more letters", lettersOf(rangeOf(t, one)), "", fault(api.ErrMany, 0))
	}
}

// Parts that are cut one behind the other are the text.
func TestPartsAreTheText(t *testing.T) {
	r := rand.New(rand.NewSource(576))
	for range 5000 {
		one := anyText(r)
		read := rangeOf(t, one)
		marks := []int{0, len(read)}
		for range r.Intn(5) {
			marks = append(marks, r.Intn(len(read)+1))
		}
		slices.Sort(marks)
		all := ""
		for i := range len(marks) - 1 {
			all += cutOf(t, one, marks[i], marks[i+1])
		}
		if all != one {
			t.Errorf("parts of % x, at %v: % x", one, marks, all)
		}
		single := ""
		for number := range read {
			single += cutOf(t, one, number, number+1)
		}
		if single != one {
			t.Errorf("letters of % x: % x", one, single)
		}
		part := cutOf(t, one, marks[0], marks[1])
		askCut(t, "a part of a part", part, 0, len(rangeOf(t, part)), part, none)
	}
}

// Of two valid texts, one behind the other, the letters are those of the first and then those of the second.
func TestTwoTexts(t *testing.T) {
	r := rand.New(rand.NewSource(577))
	for range 5000 {
		one, other := anyValid(r, 12), anyValid(r, 12)
		want := rangeOf(t, one)
		for _, read := range rangeOf(t, other) {
			want = append(want, [2]int{len(one) + read[0], read[1]})
		}
		askRange(t, "two texts", one+other, want, none)
		askValid(t, "two texts", one+other, true, 0, none)
		askTurn(t, "two texts", one+other, turnOf(t, other)+turnOf(t, one), none)
		long := len(rangeOf(t, one))
		askCut(t, "the first of two", one+other, 0, long, one, none)
		askCut(t, "the second of two", one+other, long, len(want), other, none)
		letters := append(lettersOf(rangeOf(t, one)), lettersOf(rangeOf(t, other))...)
		askWrite(t, "two texts", letters, one+other, none)
	}
	// Two that are not valid may be so together.
	askRange(t, "two halves", "\xc3"+"\xa4", [][2]int{{0, 228}}, none)
	askValid(t, "two halves", "\xc3"+"\xa4", true, 0, none)
}

// Reading goes on at the next byte: what is read behind a stray byte, or a letter, is what is read of the rest alone.
func TestReadingGoesOn(t *testing.T) {
	r := rand.New(rand.NewSource(578))
	for range 5000 {
		one := anyText(r)
		read := rangeOf(t, one)
		for number, from := range read {
			var rest [][2]int
			for _, next := range read[number:] {
				rest = append(rest, [2]int{next[0] - from[0], next[1]})
			}
			askRange(t, "the rest", one[from[0]:], rest, none)
		}
	}
}
