package utf_test

import (
	"fmt"
	"math/rand"
	"slices"
	"strings"
	"sync"
	"testing"
	"unsafe"

	"taskmill/api"
	"taskmill/utf"
)

// answers are what all calls answer, told.
func answers(text string, letters []int, from, to int) string {
	read, f := utf.Range(text)
	is, at, g := utf.Valid(text)
	written, h := utf.Write(letters)
	turned, i := utf.Turn(text)
	part, j := utf.Cut(text, from, to)
	return told(read, f, is, at, g, []byte(written), h, []byte(turned), i, []byte(part), j)
}

// What is handed in is not changed, and what lies behind a list's length is neither read nor written.
func TestWhatIsHandedIn(t *testing.T) {
	r := rand.New(rand.NewSource(579))
	for range 3000 {
		one, list := anyText(r), anyNumbers(r, 12)
		from, to := r.Intn(6)-1, r.Intn(12)-1
		own, before := strings.Clone(one), slices.Clone(list)
		want := answers(own, before, from, to)
		for _, behind := range []int{-1, 0, 97, 1 << 40} {
			roomy := append(slices.Clone(list), behind, behind, behind)
			same(t, "the answers", answers(one, roomy[:len(list)], from, to), want)
			same(t, "the list", roomy, append(slices.Clone(before), behind, behind, behind))
		}
		same(t, "the text", []byte(one), []byte(own))
		// A text that stands within another one has no bytes of that.
		within := "\xe2\x82" + one + "\xac\xbf"
		same(t, "the answers", answers(within[2:len(within)-2], list, from, to), want)
	}
}

// What lies behind a list's length is no number.
func TestBehindIsNothing(t *testing.T) {
	list := many(97, api.MaxList+1)
	askWrite(t, "one behind", list[:api.MaxList], strings.Repeat("a", api.MaxList), none)
	askWrite(t, "all behind", list[:0], "", none)
	long := strings.Repeat("a", api.MaxText+1)
	askRange(t, "two behind", long[:2], [][2]int{{0, 97}, {1, 97}}, none)
	askValid(t, "one behind", "\u00e4"[:1], false, 0, none)
	askTurn(t, "one behind", "a\u00e4"[:2], "\ufffda", none)
	askCut(t, "one behind", "ab"[:1], 0, 2, "", fault(api.ErrRange, 0))
}

// shares: have two texts memory together?
func shares(one, other string) bool {
	if one == "" || other == "" {
		return false
	}
	a, b := uintptr(unsafe.Pointer(unsafe.StringData(one))), uintptr(unsafe.Pointer(unsafe.StringData(other)))
	return a < b+uintptr(len(other)) && b < a+uintptr(len(one))
}

// What is answered is new memory: no part of the text that was handed in.
func TestTextsAreNewMemory(t *testing.T) {
	r := rand.New(rand.NewSource(580))
	long := strings.Repeat("a\u00e4", 6000)
	for _, one := range append(anyTexts(r, 300), long) {
		read := rangeOf(t, one)
		for _, marks := range [][2]int{{0, len(read)}, {0, len(read) / 2}, {len(read) / 2, len(read)}, {len(read) / 3, len(read) - len(read)/3}} {
			if shares(one, cutOf(t, one, marks[0], marks[1])) {
				t.Errorf("a part of % .300x, at %v, is of its memory", one, marks)
			}
		}
		if shares(one, turnOf(t, one)) {
			t.Errorf("% .300x, turned, is of its memory", one)
		}
	}
}

// anyTexts are so many, each in memory that is allotted for it.
func anyTexts(r *rand.Rand, often int) []string {
	var list []string
	for range often {
		list = append(list, strings.Clone("\u00e4"+anyText(r)))
	}
	return list
}

// What is answered is new memory: who writes over it changes no other answer.
func TestListsAreNewMemory(t *testing.T) {
	r := rand.New(rand.NewSource(581))
	for range 2000 {
		one := anyText(r)
		read := rangeOf(t, one)
		before := fmt.Sprint(read)
		for i := range read[:cap(read)] {
			read[:cap(read)][i] = [2]int{77, 77}
		}
		same(t, "asked again", rangeOf(t, one), before)
		list := anyNumbers(r, 9)
		written := writeOf(t, list)
		was := strings.Clone(written)
		for i := range list {
			list[i] = 77
		}
		same(t, "what was written", []byte(written), []byte(was))
	}
}

// P1: what is answered hangs on the arguments alone: not on what was asked ahead, nor beside.
func TestNothingIsKept(t *testing.T) {
	r := rand.New(rand.NewSource(582))
	type question struct {
		text     string
		letters  []int
		from, to int
	}
	var list []question
	var want []string
	for range 500 {
		one := question{anyText(r), anyNumbers(r, 9), r.Intn(6) - 1, r.Intn(12) - 1}
		list = append(list, one)
		want = append(want, answers(one.text, one.letters, one.from, one.to))
	}
	var group sync.WaitGroup
	for _, seed := range []int64{1, 2, 3, 4} {
		group.Go(func() {
			for _, i := range rand.New(rand.NewSource(seed)).Perm(len(list)) {
				one := list[i]
				same(t, "asked again", answers(one.text, one.letters, one.from, one.to), want[i])
			}
		})
	}
	group.Wait()
}
