package utf_test

import (
	"strings"
	"testing"

	"taskmill/api"
	"taskmill/utf"
)

// P19.1: where each letter begins, and the letter: of one, two, three and four bytes, at each place.
func TestRangeOfLetters(t *testing.T) {
	askRead(t, "no byte", "", -1)
	askRead(t, "one byte", "a", -1, [2]int{0, 97})
	askRead(t, "one of each", "a\u00e4\u20ac\U0001f600", -1, [2]int{0, 97}, [2]int{1, 228}, [2]int{3, 8364}, [2]int{6, 128512})
	askRead(t, "the last one first", "\U0001f600\u20ac\u00e4a", -1, [2]int{0, 128512}, [2]int{4, 8364}, [2]int{7, 228}, [2]int{9, 97})
	askRead(t, "two the same", "\u20ac\u20ac", -1, [2]int{0, 8364}, [2]int{3, 8364})
	askRead(t, "all of one byte", "\x00\x01\x7f~ \n", -1, [2]int{0, 0}, [2]int{1, 1}, [2]int{2, 127}, [2]int{3, 126}, [2]int{4, 32}, [2]int{5, 10})
	for _, one := range []struct {
		letter int
		bytes  string
	}{
		{0, text(0)}, {97, text(97)}, {127, text(127)},
		{128, text(194, 128)}, {228, text(195, 164)}, {2047, text(223, 191)},
		{2048, text(224, 160, 128)}, {8364, text(226, 130, 172)}, {55295, text(237, 159, 191)},
		{57344, text(238, 128, 128)}, {65533, text(239, 191, 189)}, {65535, text(239, 191, 191)},
		{65536, text(240, 144, 128, 128)}, {128512, text(240, 159, 152, 128)}, {1114111, text(244, 143, 191, 191)},
	} {
		long := len(one.bytes)
		askRead(t, "alone", one.bytes, -1, [2]int{0, one.letter})
		askRead(t, "at the beginning", one.bytes+"ab", -1, [2]int{0, one.letter}, [2]int{long, 97}, [2]int{long + 1, 98})
		askRead(t, "in the middle", "a"+one.bytes+"b", -1, [2]int{0, 97}, [2]int{1, one.letter}, [2]int{long + 1, 98})
		askRead(t, "at the end", "\u00e4b"+one.bytes, -1, [2]int{0, 228}, [2]int{2, 98}, [2]int{3, one.letter})
		askRead(t, "ahead of a stray byte", one.bytes+"\x80", long, [2]int{0, one.letter}, [2]int{long, instead})
		askRead(t, "behind a stray byte", "\xff"+one.bytes, 0, [2]int{0, instead}, [2]int{1, one.letter})
		askWrite(t, "its bytes", []int{one.letter}, one.bytes, none)
	}
}

// strayBytes are read as 65533 each, alone, ahead of a letter, behind one, and between two.
func strayBytes(t *testing.T, what string, numbers ...int) {
	t.Helper()
	strays := text(numbers...)
	for _, one := range []struct {
		ahead string
		long  int
		read  [][2]int
	}{
		{"", 0, nil},
		{"a", 1, [][2]int{{0, 97}}},
		{"\u00e4", 2, [][2]int{{0, 228}}},
		{"\U0010ffff\ufffd", 7, [][2]int{{0, lastLetter}, {4, instead}}},
	} {
		read := append([][2]int{}, one.read...)
		for at := range numbers {
			read = append(read, [2]int{one.long + at, instead})
		}
		end := one.long + len(numbers)
		askRead(t, what, one.ahead+strays, one.long, read...)
		askRead(t, what+", ahead of a", one.ahead+strays+"a", one.long, append(read, [2]int{end, 97})...)
		askRead(t, what+", ahead of a euro", one.ahead+strays+"\u20ac", one.long, append(read, [2]int{end, 8364})...)
		askRead(t, what+", ahead of 65533", one.ahead+strays+"\ufffdb", one.long, append(read, [2]int{end, instead}, [2]int{end + 3, 98})...)
	}
}

// P19.1: a byte that is part of no letter, whatever stands beside it.
func TestStrayBytes(t *testing.T) {
	for number := 128; number <= 191; number++ {
		strayBytes(t, "no first byte", number)
		strayBytes(t, "no first bytes", number, number)
	}
	for _, number := range []int{192, 193, 245, 246, 247, 248, 249, 250, 251, 252, 253, 254, 255} {
		strayBytes(t, "never a byte", number)
		strayBytes(t, "never a byte", number, 128)
		strayBytes(t, "never a byte", number, 191, 128)
		strayBytes(t, "never a byte", number, 128, 128, 128)
		strayBytes(t, "never a byte", number, 144, 128, 128, 128, 128)
	}
}

// P19.1: a first byte with too few behind it, at the end of the text, and ahead of another letter.
func TestTooFewBytes(t *testing.T) {
	for first := 194; first <= 244; first++ {
		strayBytes(t, "one alone", first)
		strayBytes(t, "two firsts", first, first)
		if first >= 225 && first <= 239 && first != 237 {
			strayBytes(t, "two of three", first, 128)
			strayBytes(t, "two of three", first, 191)
			strayBytes(t, "two of three, twice", first, 191, first, 128)
		}
		if first >= 241 && first <= 243 {
			strayBytes(t, "two of four", first, 128)
			strayBytes(t, "three of four", first, 128, 191)
			strayBytes(t, "three of four, ahead of a first", first, 191, 128, 194)
		}
	}
	strayBytes(t, "two of three", 224, 160)
	strayBytes(t, "two of three", 237, 159)
	strayBytes(t, "three of four", 240, 144, 128)
	strayBytes(t, "three of four", 244, 143, 191)
	askRead(t, "one more byte", "\xe2\x82\xac\x82", 3, [2]int{0, 8364}, [2]int{3, instead})
	askRead(t, "a letter within", "\xe2\xc3\xa4\x82", 0, [2]int{0, instead}, [2]int{1, 228}, [2]int{3, instead})
	askRead(t, "a letter within", "\xf0\x9f\xc3\xa4", 0, [2]int{0, instead}, [2]int{1, instead}, [2]int{2, 228})
}

// P19.1: what would be a letter's bytes if fewer did not do.
func TestFewerBytesDo(t *testing.T) {
	strayBytes(t, "0 by two", 192, 128)
	strayBytes(t, "127 by two", 193, 191)
	strayBytes(t, "0 by three", 224, 128, 128)
	strayBytes(t, "127 by three", 224, 129, 191)
	strayBytes(t, "2047 by three", 224, 159, 191)
	strayBytes(t, "0 by four", 240, 128, 128, 128)
	strayBytes(t, "65533 by four", 240, 143, 191, 189)
	strayBytes(t, "65535 by four", 240, 143, 191, 191)
	strayBytes(t, "0 by five", 248, 128, 128, 128, 128)
	askRead(t, "2048 by three", "\xe0\xa0\x80", -1, [2]int{0, 2048})
	askRead(t, "65536 by four", "\xf0\x90\x80\x80", -1, [2]int{0, 65536})
}

// P19.1: the bytes that numbers from 55296 to 57343 would have, and those above 1114111.
func TestBytesOfNoLetters(t *testing.T) {
	for number := firstGap; number <= lastGap; number++ {
		strays := string(bytesByTheWords(number))
		askRead(t, "no letter", strays, 0, [2]int{0, instead}, [2]int{1, instead}, [2]int{2, instead})
	}
	strayBytes(t, "55296", 237, 160, 128)
	strayBytes(t, "56319", 237, 175, 191)
	strayBytes(t, "56320", 237, 176, 128)
	strayBytes(t, "57343", 237, 191, 191)
	strayBytes(t, "a pair of them", 237, 160, 189, 237, 184, 128)
	strayBytes(t, "1114112", 244, 144, 128, 128)
	strayBytes(t, "1179647", 244, 159, 191, 191)
	strayBytes(t, "1310719", 244, 191, 191, 191)
	strayBytes(t, "1310720", 245, 128, 128, 128)
	strayBytes(t, "2097151", 247, 191, 191, 191)
	askRead(t, "55295", "\xed\x9f\xbf", -1, [2]int{0, 55295})
	askRead(t, "57344", "\xee\x80\x80", -1, [2]int{0, 57344})
	askRead(t, "1114111", "\xf4\x8f\xbf\xbf", -1, [2]int{0, 1114111})
}

// P19.2: is each byte part of a letter's bytes; and if not, where is the first that is none?
func TestValid(t *testing.T) {
	for _, is := range []string{"", "a", "\x00", "\u00e4", "\ufffd", "\ufffd\ufffda", "a\u00e4\u20ac\U0001f600", "\x00\x7f\u0080\u07ff\u0800\ud7ff\ue000\uffff\U00010000\U0010ffff"} {
		askValid(t, "valid", is, true, 0, none)
		for _, one := range []struct {
			what, strays string
			at           int
		}{
			{"one", "\x80", 0},
			{"another one", "\xff", 0},
			{"two", "\xc3\xff", 0},
			{"two of three of 65533", "\xef\xbf", 0},
			{"65533 ahead", "\ufffd\xef", 3},
			{"65533 ahead, and part of it", "\ufffd\xef\xbf", 3},
			{"part of 65533 ahead of it", "\xef\ufffd", 0},
			{"the last two of 65533", "\xbf\xbd", 0},
			{"one far behind", strings.Repeat("\ufffd", 50) + "\xe2\x82", 150},
		} {
			askValid(t, one.what, is+one.strays, false, len(is)+one.at, none)
			askValid(t, one.what+", and a letter behind", is+one.strays+"\ufffd\u00e4", false, len(is)+one.at, none)
			askValid(t, one.what+", and one more", is+one.strays+"a\xff", false, len(is)+one.at, none)
		}
	}
	askValid(t, "one at the last place", strings.Repeat("\U0010ffff", 4999)+"\ufffd\xc3", false, 19999, none)
	askValid(t, "one at the first place", "\x80"+strings.Repeat("a", 19999), false, 0, none)
}

// ErrMany at 0: a text has more than MaxText bytes, whatever else is wrong; so many it may have.
func TestTextsTooLong(t *testing.T) {
	for _, one := range tooLong() {
		askRange(t, "too long", one, nil, fault(api.ErrMany, 0))
		askValid(t, "too long", one, false, 0, fault(api.ErrMany, 0))
		askTurn(t, "too long", one, "", fault(api.ErrMany, 0))
		for _, from := range far() {
			for _, to := range far() {
				askCut(t, "too long", one, from, to, "", fault(api.ErrMany, 0))
			}
		}
	}
	for _, one := range tooLong() {
		full := one[:api.MaxText]
		read, strays := readByTheWords(full)
		at := 0
		if len(strays) > 0 {
			at = strays[0]
		}
		askRange(t, "long", full, read, none)
		askValid(t, "long", full, len(strays) == 0, at, none)
		askCut(t, "long", full, 0, len(read), full, none)
		askCut(t, "long", full, len(read)-1, len(read), full[read[len(read)-1][0]:], none)
		askCut(t, "long", full, len(read), len(read), "", none)
		askCut(t, "long", full, 0, len(read)+1, "", fault(api.ErrRange, 0))
		turned, f := utf.Turn(full)
		same(t, "long: turn", told(f, len(turned)), told(none, len(full)+2*len(strays)))
	}
	askTurn(t, "20000 letters", "a"+strings.Repeat("b", 19999), strings.Repeat("b", 19999)+"a", none)
	askTurn(t, "20000 bytes of no letters", strings.Repeat("\xff", 20000), strings.Repeat("\ufffd", 20000), none)
}
