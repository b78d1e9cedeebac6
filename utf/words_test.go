package utf_test

import (
	"strings"

	"taskmill/api"
)

// What stands here tells once more what the chapter's words say: of letters by the binary digits of their bytes, without a word of Go's own about letters.

// forms are how the bytes of letters look: up to which letter, and each byte, of which each b is a binary digit of the letter.
func forms() []form {
	return []form{
		{127, []string{"0bbbbbbb"}},
		{2047, []string{"110bbbbb", "10bbbbbb"}},
		{65535, []string{"1110bbbb", "10bbbbbb", "10bbbbbb"}},
		{lastLetter, []string{"11110bbb", "10bbbbbb", "10bbbbbb", "10bbbbbb"}},
	}
}

type form struct {
	upTo  int
	bytes []string
}

var allForms = forms()

func isLetterByTheWords(number int) bool {
	return number >= 0 && number <= lastLetter && !(number >= firstGap && number <= lastGap)
}

// bytesByTheWords are the bytes of a letter: the digits of its form are filled in, the last one first.
func bytesByTheWords(letter int) []byte {
	which := 0
	for letter > allForms[which].upTo {
		which++
	}
	looks := allForms[which].bytes
	list := make([]byte, len(looks))
	for at := len(looks) - 1; at >= 0; at-- {
		for digit := 7; digit >= 0; digit-- {
			is := int(looks[at][digit] - '0')
			if looks[at][digit] == 'b' {
				is = letter % 2
				letter /= 2
			}
			list[at] += byte(is << (7 - digit))
		}
	}
	return list
}

// digitsOf are the digits that a byte has where its form has a b, behind those that were there, and whether it is of the form.
func digitsOf(look string, one byte, number int) (int, bool) {
	for digit := range 8 {
		is := one >> (7 - digit) % 2
		switch look[digit] {
		case 'b':
			number = 2*number + int(is)
		case '0' + is:
		default:
			return 0, false
		}
	}
	return number, true
}

// isOfForm tells which number the bytes at a text's beginning have the digits of, and whether they are of a form.
func isOfForm(looks []string, text string) (int, bool) {
	if len(text) < len(looks) {
		return 0, false
	}
	number, is := 0, true
	for at, look := range looks {
		if number, is = digitsOf(look, text[at], number); !is {
			return 0, false
		}
	}
	return number, true
}

// letterByTheWords is the letter whose bytes stand at a text's beginning, and how many they are.
func letterByTheWords(text string) (int, int, bool) {
	for _, one := range allForms {
		number, is := isOfForm(one.bytes, text)
		if is && isLetterByTheWords(number) && strings.HasPrefix(text, string(bytesByTheWords(number))) {
			return number, len(one.bytes), true
		}
	}
	return 0, 0, false
}

// readByTheWords is what is read of a text, and the places of the bytes in whose stead 65533 is.
func readByTheWords(text string) (read [][2]int, strays []int) {
	for at := 0; at < len(text); {
		letter, long, is := letterByTheWords(text[at:])
		if !is {
			letter, long = instead, 1
			strays = append(strays, at)
		}
		read = append(read, [2]int{at, letter})
		at += long
	}
	return read, strays
}

func rangeByTheWords(text string) ([][2]int, api.Fault) {
	if len(text) > 20000 {
		return nil, fault(api.ErrMany, 0)
	}
	read, _ := readByTheWords(text)
	return read, none
}

func validByTheWords(text string) (bool, int, api.Fault) {
	if len(text) > 20000 {
		return false, 0, fault(api.ErrMany, 0)
	}
	if _, strays := readByTheWords(text); len(strays) > 0 {
		return false, strays[0], none
	}
	return true, 0, none
}

// writeByTheWords is what Write answers of a list that is not too long.
func writeByTheWords(letters []int) string {
	var list []byte
	for _, number := range letters {
		if !isLetterByTheWords(number) {
			number = instead
		}
		list = append(list, bytesByTheWords(number)...)
	}
	return string(list)
}

func turnByTheWords(text string) (string, api.Fault) {
	if len(text) > 20000 {
		return "", fault(api.ErrMany, 0)
	}
	read, _ := readByTheWords(text)
	turned := ""
	for _, one := range read {
		turned = writeByTheWords(one[1:]) + turned
	}
	return turned, none
}

// cutByTheWords goes through the letters that were read, and takes the bytes of those from one on that are ahead of the other.
func cutByTheWords(text string, read [][2]int, from, to int) (string, api.Fault) {
	switch {
	case len(text) > 20000:
		return "", fault(api.ErrMany, 0)
	case from < 0 || from > to || to > len(read):
		return "", fault(api.ErrRange, 0)
	}
	part := ""
	for number, one := range read {
		if number >= from && number < to {
			end := len(text)
			if number+1 < len(read) {
				end = read[number+1][0]
			}
			part += text[one[0]:end]
		}
	}
	return part, none
}
