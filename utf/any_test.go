package utf_test

import (
	"math/rand"

	"taskmill/api"
)

// anyLetter is a letter of one, two, three or four bytes; one in a few is a bound.
func anyLetter(r *rand.Rand) int {
	if r.Intn(4) == 0 {
		return edges()[r.Intn(len(edges()))]
	}
	for {
		most := []int{127, 2047, 65535, lastLetter}[r.Intn(4)]
		if number := r.Intn(most + 1); isLetterByTheWords(number) {
			return number
		}
	}
}

// anyLetters are up to so many.
func anyLetters(r *rand.Rand, most int) []int {
	list := make([]int, r.Intn(most+1))
	for i := range list {
		list[i] = anyLetter(r)
	}
	return list
}

// anyNumbers are letters and numbers that are none, up to so many.
func anyNumbers(r *rand.Rand, most int) []int {
	list := anyLetters(r, most)
	wrong := noLetters()
	for i := range list {
		switch r.Intn(6) {
		case 0:
			list[i] = wrong[r.Intn(len(wrong))]
		case 1:
			list[i] = int(r.Uint64())
		case 2:
			list[i] = firstGap - 3 + r.Intn(lastGap-firstGap+7)
		}
	}
	return list
}

// anyValid is a text of up to so many letters.
func anyValid(r *rand.Rand, most int) string { return writeByTheWords(anyLetters(r, most)) }

// anyBytes are up to so many; most are such as stand in letters of more bytes than one.
func anyBytes(r *rand.Rand, most int) []byte {
	list := make([]byte, r.Intn(most+1))
	for i := range list {
		switch r.Intn(4) {
		case 0:
			list[i] = byte(r.Intn(256))
		case 1:
			list[i] = byte(192 + r.Intn(64))
		case 2:
			list[i] = byte(128 + r.Intn(64))
		default:
			list[i] = edgeBytes()[r.Intn(len(edgeBytes()))]
		}
	}
	return list
}

// anyText is one of up to some 60 bytes: valid, or valid but for a few bytes that were changed, left out or put in, or of any bytes.
func anyText(r *rand.Rand) string {
	list := []byte(anyValid(r, 15))
	switch r.Intn(3) {
	case 0:
		return string(list)
	case 1:
		return string(anyBytes(r, 20))
	}
	for range 1 + r.Intn(3) {
		at := r.Intn(len(list) + 1)
		rest := append([]byte{}, list[at:]...)
		switch {
		case r.Intn(3) == 0:
			list = append(append(list[:at], anyBytes(r, 3)...), rest...)
		case len(rest) > 0 && r.Intn(2) == 0:
			list = append(list[:at], rest[1:]...)
		case len(rest) > 0:
			list[at] = edgeBytes()[r.Intn(len(edgeBytes()))]
		}
	}
	return string(list)
}

// anyLong is a text of about MaxText bytes, or some more.
func anyLong(r *rand.Rand) string {
	var list []byte
	size := api.MaxText - 3 + r.Intn(8)
	piece := r.Intn(3)
	for len(list) < size {
		switch piece {
		case 0:
			list = append(list, anyValid(r, 40)...)
		case 1:
			list = append(list, anyBytes(r, 40)...)
		default:
			list = append(list, anyText(r)...)
		}
	}
	return string(list[:size])
}

// edgeBytes are those at which something changes, one of each kind, and the bounds of each.
func edgeBytes() []byte {
	return []byte{0, 97, 127, 128, 143, 144, 159, 160, 189, 191, 192, 193, 194, 223, 224, 225, 236, 237, 238, 239, 240, 241, 243, 244, 245, 255}
}
