package utf_test

import (
	"math/rand"
	"slices"
	"strings"
	"testing"

	"taskmill/api"
	"taskmill/utf"
)

// askText holds what is answered of a text against what the words say; it answers whether it is valid.
func askText(t *testing.T, text string) bool {
	t.Helper()
	const what = "by the words"
	read, f := rangeByTheWords(text)
	askRange(t, what, text, read, f)
	is, at, f := validByTheWords(text)
	askValid(t, what, text, is, at, f)
	turned, f := turnByTheWords(text)
	askTurn(t, what, text, turned, f)
	return is
}

// askCuts holds all parts of a text against what the words say, also those that may not be.
func askCuts(t *testing.T, text string) {
	t.Helper()
	read, _ := readByTheWords(text)
	for from := -1; from <= len(read)+1; from++ {
		for to := -1; to <= len(read)+1; to++ {
			want, f := cutByTheWords(text, read, from, to)
			askCut(t, "by the words", text, from, to, want, f)
		}
	}
}

// P19.1 to P19.4, at all letters, and at all numbers up to 1114111 and some more that are none.
func TestAllLetters(t *testing.T) {
	for first := -1000; first <= lastLetter+3000; first += 1000 {
		var numbers []int
		var want [][2]int
		var all []byte
		for number := first; number < first+1000; number++ {
			numbers = append(numbers, number)
			letter := number
			if !isLetterByTheWords(number) {
				letter = instead
			}
			want = append(want, [2]int{len(all), letter})
			all = append(all, bytesByTheWords(letter)...)
		}
		askWrite(t, "all", numbers, string(all), none)
		askRange(t, "all", string(all), want, none)
		askValid(t, "all", string(all), true, 0, none)
		letters := lettersOf(want)
		slices.Reverse(letters)
		askTurn(t, "all", string(all), writeByTheWords(letters), none)
	}
}

// P19.1, P19.2, P19.4 and P19.5, at all texts of up to two bytes.
func TestSmallTexts(t *testing.T) {
	askText(t, "")
	askCuts(t, "")
	for one := range 256 {
		askText(t, text(one))
		askCuts(t, text(one))
		for other := range 256 {
			askText(t, text(one, other))
			askCuts(t, text(one, other))
		}
	}
}

// P19.1, P19.2 and P19.4, at all texts of three and four bytes of those at which something changes.
func TestEdgeTexts(t *testing.T) {
	many := map[bool]int{}
	list := edgeBytes()
	four := make([]byte, 4)
	for _, four[0] = range list {
		for _, four[1] = range list {
			for _, four[2] = range list {
				many[askText(t, string(four[:3]))]++
				for _, four[3] = range list {
					many[askText(t, string(four))]++
				}
			}
		}
	}
	if many[true] < 300 || many[false] < 10000 {
		t.Errorf("not both kinds were asked: %v", many)
	}
}

// P19.1 and P19.2, at all texts of three bytes that begin with a first byte of three or more, and at those of four of a few.
func TestFirstTwoBytes(t *testing.T) {
	for first := 224; first < 256; first++ {
		for second := range 256 {
			for _, third := range edgeBytes() {
				askText(t, text(first, second, int(third)))
			}
			for _, behind := range []string{"\x80\x80", "\xbf\xbf", "\x80a", "\xbf\xc0"} {
				askText(t, text(first, second)+behind)
			}
		}
	}
}

// P19.1, P19.2, P19.4 and P19.5, at random texts.
func TestAnyTexts(t *testing.T) {
	r := rand.New(rand.NewSource(571))
	many := map[bool]int{}
	for range 20000 {
		one := anyText(r)
		many[askText(t, one)]++
		if len(one) < 25 {
			askCuts(t, one)
		}
	}
	if many[true] < 2000 || many[false] < 2000 {
		t.Errorf("not both kinds were asked: %v", many)
	}
}

// P19.1, P19.2 and P19.5, at random texts of about MaxText bytes.
func TestAnyLongTexts(t *testing.T) {
	r := rand.New(rand.NewSource(572))
	for range 60 {
		one := anyLong(r)
		read, f := rangeByTheWords(one)
		askRange(t, "long", one, read, f)
		is, at, f := validByTheWords(one)
		askValid(t, "long", one, is, at, f)
		for range 4 {
			from := r.Intn(len(read)+3) - 1
			to := from + r.Intn(60) - 1
			want, f := cutByTheWords(one, read, from, to)
			askCut(t, "long", one, from, to, want, f)
		}
		if f != none {
			askTurn(t, "long", one, "", f)
			continue
		}
		letters := lettersOf(read)
		slices.Reverse(letters)
		askTurn(t, "long", one, writeByTheWords(letters), none)
	}
}

// P19.3, at random lists.
func TestAnyLists(t *testing.T) {
	r := rand.New(rand.NewSource(573))
	for range 20000 {
		list := anyNumbers(r, 20)
		askWrite(t, "any", list, writeByTheWords(list), none)
	}
	for range 60 {
		list := append(anyNumbers(r, 9), many(anyLetter(r), api.MaxList-9)...)
		r.Shuffle(len(list), func(i, j int) { list[i], list[j] = list[j], list[i] })
		askWrite(t, "long", list, writeByTheWords(list), none)
		list = append(list, anyNumbers(r, 12)...)
		if len(list) > api.MaxList {
			askWrite(t, "too long", list, "", fault(api.ErrMany, 0))
		} else {
			askWrite(t, "long", list, writeByTheWords(list), none)
		}
	}
}

// P1: no call panics, and every call ends, whatever it is given.
func TestWild(t *testing.T) {
	r := rand.New(rand.NewSource(574))
	bytes := make([]byte, 300000)
	r.Read(bytes)
	wild := []string{"", "\x00", "\xff", "\xf4", string(bytes), string(bytes[:api.MaxText]), strings.Repeat("\xf0\x9f", 10000), strings.Repeat("\xf4\x8f\xbf", 6666)}
	for range 300 {
		wild = append(wild, anyText(r))
	}
	for _, one := range wild {
		utf.Range(one)
		utf.Valid(one)
		utf.Turn(one)
		if len(one) < 100 {
			for _, from := range far() {
				utf.Cut(one, from, far()[r.Intn(len(far()))])
				utf.Cut(one, far()[r.Intn(len(far()))], from)
			}
		}
		utf.Write(far())
		utf.Write(anyNumbers(r, 6000))
	}
}
