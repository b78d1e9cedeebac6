package utf

// Which numbers are letters, and which one stands for what is none.
const (
	lastLetter = 0x10FFFF
	firstGap   = 0xD800 // from here on there are no letters
	lastGap    = 0xDFFF // up to here
	instead    = rune(0xFFFD)
)

// letterOf answers the letter that is written for a number.
func letterOf(number int) rune {
	// A number is asked before it is cut to a rune's 32 bits, by which it could become a letter.
	if number < 0 || number > lastLetter || firstGap <= number && number <= lastGap {
		return instead
	}
	return rune(number)
}

// marksOf answers where each letter that is read begins, and, last, where the text ends.
func marksOf(text string) []int {
	var marks []int
	for at := range text {
		marks = append(marks, at)
	}
	return append(marks, len(text))
}
