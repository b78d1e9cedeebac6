package utf_test

import (
	"math"
	"slices"
	"strings"
	"testing"

	"taskmill/api"
	"taskmill/utf"
)

// P19.3: the bytes of the letters, one behind the other.
func TestWrite(t *testing.T) {
	askWrite(t, "no number", nil, "", none)
	askWrite(t, "one", []int{97}, "a", none)
	askWrite(t, "one of each", []int{97, 228, 8364, 128512}, "a\u00e4\u20ac\U0001f600", none)
	askWrite(t, "the last one first", []int{128512, 8364, 228, 97}, "\U0001f600\u20ac\u00e4a", none)
	askWrite(t, "0", []int{0, 0}, "\x00\x00", none)
	askWrite(t, "65533", []int{65533}, text(239, 191, 189), none)
	askWrite(t, "bounds", []int{127, 128, 2047, 2048, 65535, 65536}, text(127, 194, 128, 223, 191, 224, 160, 128, 239, 191, 191, 240, 144, 128, 128), none)
	askWrite(t, "bounds of what is none", []int{55295, 57344, 1114111}, text(237, 159, 191, 238, 128, 128, 244, 143, 191, 191), none)
}

// P19.3: of a number that is no letter the bytes of 65533, ahead of letters, behind them and between.
func TestWriteOfNoLetters(t *testing.T) {
	const three = "\xef\xbf\xbd"
	for _, number := range noLetters() {
		askWrite(t, "alone", []int{number}, three, none)
		askWrite(t, "ahead", []int{number, 97, 8364}, three+"a\u20ac", none)
		askWrite(t, "behind", []int{97, 8364, number}, "a\u20ac"+three, none)
		askWrite(t, "between", []int{65536, number, 0}, "\U00010000"+three+"\x00", none)
		askWrite(t, "two", []int{number, number}, three+three, none)
		askWrite(t, "two, and a letter between", []int{number, 128, number}, three+"\u0080"+three, none)
		askWrite(t, "another one", []int{number, math.MinInt, 1114112, 57343, -1}, strings.Repeat(three, 5), none)
	}
	askWrite(t, "a pair that is none", []int{55357, 56832}, three+three, none)
}

// P19.3: numbers whose last bits are a letter's are none, however many bits there are behind them.
func TestWriteOfCutNumbers(t *testing.T) {
	for _, letter := range edges() {
		for bits := 21; bits < 64; bits++ {
			number := letter + 1<<bits
			askWrite(t, "one bit more", []int{number}, "\ufffd", none)
			askWrite(t, "all bits more", []int{letter - 1<<bits}, "\ufffd", none)
		}
	}
}

// P19.3: ErrMany at 0: more than MaxList numbers; so many may be.
func TestWriteTooMany(t *testing.T) {
	for _, number := range []int{0, 97, 228, 8364, 1114111, -1, 55296, math.MaxInt} {
		for _, often := range []int{api.MaxList + 1, api.MaxList + 2, 2 * api.MaxList, api.MaxText, 70000} {
			askWrite(t, "too many", many(number, often), "", fault(api.ErrMany, 0))
		}
		one := writeByTheWords([]int{number})
		askWrite(t, "many", many(number, api.MaxList), strings.Repeat(one, api.MaxList), none)
		askWrite(t, "one fewer", many(number, api.MaxList-1), strings.Repeat(one, api.MaxList-1), none)
	}
}

// P19.4: the letters that are read, the last one first.
func TestTurn(t *testing.T) {
	askTurn(t, "no text", "", "", none)
	askTurn(t, "one letter", "a", "a", none)
	askTurn(t, "one letter", "\u00e4", "\u00e4", none)
	askTurn(t, "one letter", "\U0001f600", "\U0001f600", none)
	askTurn(t, "two", "ab", "ba", none)
	askTurn(t, "three", "abc", "cba", none)
	askTurn(t, "one of each", "a\u00e4\u20ac\U0001f600", "\U0001f600\u20ac\u00e4a", none)
	askTurn(t, "the same both ways", "\u00e4a\u00e4", "\u00e4a\u00e4", none)
	askTurn(t, "signs above letters are letters too", "e\u0301", "\u0301e", none)
	askTurn(t, "the ends of lines", "a\r\nb", "b\n\ra", none)
}

// P19.4: 65533 is written with its three bytes, whatever stood there.
func TestTurnOfNoLetters(t *testing.T) {
	askTurn(t, "one", "\xff", "\ufffd", none)
	askTurn(t, "one behind", "a\u00e4\xff", "\ufffd\u00e4a", none)
	askTurn(t, "one ahead", "\xffab", "ba\ufffd", none)
	askTurn(t, "one between", "a\x80b", "b\ufffda", none)
	askTurn(t, "too few bytes", "a\xe2\x82", "\ufffd\ufffda", none)
	askTurn(t, "no letter", "\xed\xa0\x80b", "b\ufffd\ufffd\ufffd", none)
	askTurn(t, "65533 itself", "\ufffda", "a\ufffd", none)
	askTurn(t, "65533 and a stray byte", "\ufffd\xefa", "a\ufffd\ufffd", none)
	// The bytes turned one by one would be a letter's.
	askTurn(t, "the bytes of a letter, turned", "\xa4\xc3", "\ufffd\ufffd", none)
	askTurn(t, "the bytes of a letter, turned", "\xac\x82\xe2", "\ufffd\ufffd\ufffd", none)
}

// P19.5: the part from where one letter begins up to where another one does.
func TestCut(t *testing.T) {
	const mixed = "a\u00e4\u20ac\U0001f600b"
	begins := []int{0, 1, 3, 6, 10, 11}
	for from, begin := range begins {
		for to, end := range begins {
			if from <= to {
				askCut(t, "mixed", mixed, from, to, mixed[begin:end], none)
			} else {
				askCut(t, "from above to", mixed, from, to, "", fault(api.ErrRange, 0))
			}
		}
	}
	askCut(t, "the first letter", "\u20acab", 0, 1, "\u20ac", none)
	askCut(t, "one letter", "a\u00e4b", 1, 2, "\u00e4", none)
	askCut(t, "the last letter", "ab\u20ac", 2, 3, "\u20ac", none)
	askCut(t, "nothing at the beginning", "ab", 0, 0, "", none)
	askCut(t, "nothing at the end", "ab", 2, 2, "", none)
	askCut(t, "nothing between", "ab", 1, 1, "", none)
	askCut(t, "nothing of nothing", "", 0, 0, "", none)
	askCut(t, "all", "ab", 0, 2, "ab", none)
}

// P19.5: ErrRange at 0: from is below 0, or above to, or to above how many letters there are, not how many bytes.
func TestCutRange(t *testing.T) {
	wrong := fault(api.ErrRange, 0)
	askCut(t, "to is one more", "ab", 1, 3, "", wrong)
	askCut(t, "to is one more", "", 0, 1, "", wrong)
	askCut(t, "both are one more", "ab", 3, 3, "", wrong)
	askCut(t, "both are one more", "", 1, 1, "", wrong)
	askCut(t, "from is below 0", "ab", -1, 1, "", wrong)
	askCut(t, "both are below 0", "ab", -1, -1, "", wrong)
	askCut(t, "both are below 0", "", -1, -1, "", wrong)
	askCut(t, "to alone is below 0", "ab", 0, -1, "", wrong)
	askCut(t, "from above to", "ab", 2, 1, "", wrong)
	askCut(t, "from above to, which is one more", "ab", 4, 3, "", wrong)
	askCut(t, "as many as there are bytes", "\u20ac", 0, 3, "", wrong)
	askCut(t, "fewer than there are bytes", "\u20ac", 1, 2, "", wrong)
	for _, from := range far() {
		for _, to := range far() {
			for _, one := range []string{"", "ab", "\u00e4\xff\u20ac"} {
				read, _ := readByTheWords(one)
				want, f := cutByTheWords(one, read, from, to)
				askCut(t, "far", one, from, to, want, f)
			}
		}
	}
}

// P19.5: of a text that is not valid the part has its bytes as they stand; each byte that is no part of a letter counts as one.
func TestCutOfNoLetters(t *testing.T) {
	const strays = "\xff\u00e4\xe2\x82a\xed\xa0\x80"
	begins := []int{0, 1, 3, 4, 5, 6, 7, 8, 9}
	same(t, "its bytes", len(strays), 9)
	for number := range len(begins) - 1 {
		askCut(t, "one", strays, number, number+1, strays[begins[number]:begins[number+1]], none)
		askCut(t, "from the beginning", strays, 0, number, strays[:begins[number]], none)
		askCut(t, "up to the end", strays, number, 8, strays[begins[number]:], none)
	}
	askCut(t, "one more", strays, 0, 9, "", fault(api.ErrRange, 0))
	askCut(t, "two of three", "\xe2\x82a", 0, 2, "\xe2\x82", none)
	askCut(t, "one of two", "\xe2\x82a", 1, 2, "\x82", none)
	// What is cut may be part of no letter, and stays so.
	part, _ := utf.Cut("\x80\u00e4", 0, 1)
	askValid(t, "what was cut", part, false, 0, none)
}

// P19.5: at the limits.
func TestCutOfMuch(t *testing.T) {
	for _, letter := range []string{"a", "\u00e4", "\U0010ffff", "\xff"} {
		often := api.MaxText / len(letter)
		long := strings.Repeat(letter, often)
		for _, from := range []int{0, 1, 4999, often / 2, often - 1, often} {
			for _, to := range []int{0, 1, 4999, often / 2, often - 1, often, often + 1} {
				if from > to || to > often {
					askCut(t, "long", long, from, to, "", fault(api.ErrRange, 0))
				} else {
					askCut(t, "long", long, from, to, strings.Repeat(letter, to-from), none)
				}
			}
		}
	}
}

// P19.3: a list without numbers may be nil or empty.
func TestEmptyLists(t *testing.T) {
	for _, empty := range [][]int{nil, {}, make([]int, 0, 9), slices.Repeat([]int{97}, 5001)[:0]} {
		askWrite(t, "no numbers", empty, "", none)
	}
}
