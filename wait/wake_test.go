package wait_test

import (
	"fmt"
	"math"
	"testing"

	"taskmill/api"
	"taskmill/wait"
)

// P4.3: the lines then, and who is woken.
func TestWake(t *testing.T) {
	some := lines(line(-5, 3, 1, 4), line(0, 9), line(8, 2, 7))
	far := lines(line(math.MinInt, 1), line(math.MaxInt, 2, 3))
	rows := []struct {
		what  string
		l     []api.Line
		at, n int
		then  []api.Line
		woken []int
	}{
		{"one", some, -5, 1, lines(line(-5, 1, 4), some[1], some[2]), []int{3}},
		{"two", some, -5, 2, lines(line(-5, 4), some[1], some[2]), []int{3, 1}},
		{"just as many as there are", some, -5, 3, some[1:], []int{3, 1, 4}},
		{"one more than there are", some, -5, 4, some[1:], []int{3, 1, 4}},
		{"far more than there are", some, -5, math.MaxInt, some[1:], []int{3, 1, 4}},
		{"none", some, -5, 0, some, nil},
		{"below 1", some, -5, -1, some, nil},
		{"below 1 by as many as there are", some, -5, -3, some, nil},
		{"far below 1", some, -5, math.MinInt, some, nil},
		{"a line of one goes", some, 0, 1, lines(some[0], some[2]), []int{9}},
		{"a line of one stays", some, 0, 0, some, nil},
		{"the last line", some, 8, 1, lines(some[0], some[1], line(8, 7)), []int{2}},
		{"the last line goes", some, 8, 2, some[:2], []int{2, 7}},
		{"the only line goes", lines(line(5, 1)), 5, 1, nil, []int{1}},
		{"no line ahead of all", some, -6, 2, some, nil},
		{"no line between", some, 1, 2, some, nil},
		{"no line behind all", some, 9, 2, some, nil},
		{"no lines", nil, 5, 9, nil, nil},
		{"an address that is a task", some, 9, 1, some, nil},
		{"the least address", far, math.MinInt, 1, far[1:], []int{1}},
		{"the greatest address", far, math.MaxInt, 1, lines(far[0], line(math.MaxInt, 3)), []int{2}},
		{"no line of the least address", some, math.MinInt, 1, some, nil},
		{"no line of the greatest address", some, math.MaxInt, 1, some, nil},
	}
	for _, r := range rows {
		then, woken, f := wait.Wake(r.l, r.at, r.n)
		same(t, r.what, fmt.Sprint(then, woken, f), fmt.Sprint(r.then, r.woken, none))
	}
}

// P4.3: as many lines and tasks as there may be.
func TestWakeLimits(t *testing.T) {
	const most = api.MaxList
	all := upTo(1, most)
	for _, n := range []int{1, most - 1, most, most + 1} {
		then, woken, f := wait.Wake(lines(line(5, all...)), 5, n)
		var left []api.Line
		if n < most {
			left = lines(line(5, all[n:]...))
		}
		same(t, fmt.Sprint(n, " of one line"), fmt.Sprint(then, woken, f), fmt.Sprint(left, all[:min(n, most)], none))
	}
	then, woken, f := wait.Wake(singles(most), 10*most, 1)
	same(t, "the last of MaxList lines", fmt.Sprint(then, woken, f), fmt.Sprint(singles(most-1), []int{most}, none))
}

// P4.5: the lines then.
func TestMove(t *testing.T) {
	some := lines(line(-5, 3, 1, 4), line(0, 9), line(8, 2, 7))
	far := lines(line(math.MinInt, 1), line(math.MaxInt, 2, 3))
	rows := []struct {
		what        string
		l           []api.Line
		from, to, n int
		then        []api.Line
	}{
		{"one, to a line behind", some, -5, 0, 1, lines(line(-5, 1, 4), line(0, 9, 3), some[2])},
		{"two, to a line behind", some, -5, 8, 2, lines(line(-5, 4), some[1], line(8, 2, 7, 3, 1))},
		{"just as many as there are", some, -5, 0, 3, lines(line(0, 9, 3, 1, 4), some[2])},
		{"more than there are", some, -5, 0, 4, lines(line(0, 9, 3, 1, 4), some[2])},
		{"far more than there are", some, -5, 8, math.MaxInt, lines(some[1], line(8, 2, 7, 3, 1, 4))},
		{"one, to a line ahead", some, 8, 0, 1, lines(some[0], line(0, 9, 2), line(8, 7))},
		{"all, to a line ahead", some, 8, -5, 2, lines(line(-5, 3, 1, 4, 2, 7), some[1])},
		{"none", some, -5, 0, 0, some},
		{"below 1", some, -5, 0, -1, some},
		{"far below 1", some, 8, 0, math.MinInt, some},
		{"a line of one goes", some, 0, 8, 1, lines(some[0], line(8, 2, 7, 9))},

		{"to a new line ahead of all", some, 8, -6, 1, lines(line(-6, 2), some[0], some[1], line(8, 7))},
		{"to a new line between", some, 8, 1, 2, lines(some[0], some[1], line(1, 2, 7))},
		{"to a new line behind all", some, -5, 9, 2, lines(line(-5, 4), some[1], some[2], line(9, 3, 1))},
		{"a line of one to a new line", some, 0, 1, 1, lines(some[0], line(1, 9), some[2])},
		{"the only line to a new one", lines(line(5, 1, 2)), 5, 4, 2, lines(line(4, 1, 2))},
		{"none makes no new line", some, 8, 1, 0, some},
		{"below 1 makes no new line", some, 8, 1, -1, some},

		{"from no line", some, 1, 8, 2, some},
		{"from no line ahead of all", some, -6, 8, 2, some},
		{"from no line behind all", some, 9, 8, 2, some},
		{"from no line to none", some, 9, 1, 2, some},
		{"from no line to itself", some, 1, 1, 2, some},
		{"no lines", nil, 5, 6, 9, nil},
		{"no lines, to itself", nil, 5, 5, 9, nil},

		{"one to itself", some, -5, -5, 1, lines(line(-5, 1, 4, 3), some[1], some[2])},
		{"two to itself", some, -5, -5, 2, lines(line(-5, 4, 3, 1), some[1], some[2])},
		{"all to itself", some, -5, -5, 3, some},
		{"more to itself", some, 8, 8, 5, some},
		{"none to itself", some, 8, 8, 0, some},
		{"below 1 to itself", some, 8, 8, -1, some},
		{"a line of one to itself", some, 0, 0, 1, some},

		{"from the least to the greatest", far, math.MinInt, math.MaxInt, 1, lines(line(math.MaxInt, 2, 3, 1))},
		{"from the greatest to the least", far, math.MaxInt, math.MinInt, 1, lines(line(math.MinInt, 1, 2), line(math.MaxInt, 3))},
		{"to a new line of the least", some, 0, math.MinInt, 1, lines(line(math.MinInt, 9), some[0], some[2])},
		{"to a new line of the greatest", some, 0, math.MaxInt, 1, lines(some[0], some[2], line(math.MaxInt, 9))},
	}
	for _, r := range rows {
		then, f := wait.Move(r.l, r.from, r.to, r.n)
		same(t, r.what, fmt.Sprint(then, f), fmt.Sprint(r.then, none))
	}
}

// P4.5: Move has no fault of its own, however many there are: it adds nobody.
func TestMoveLimits(t *testing.T) {
	const most = api.MaxList
	all := upTo(1, most)
	then, f := wait.Move(lines(line(5, all...)), 5, 4, most-1)
	same(t, "MaxList tasks, to a new line", fmt.Sprint(then, f), fmt.Sprint(lines(line(4, all[:most-1]...), line(5, most)), none))
	then, f = wait.Move(lines(line(5, all[:most-1]...), line(6, most)), 6, 5, 1)
	same(t, "MaxList tasks, to one line", fmt.Sprint(then, f), fmt.Sprint(lines(line(5, all...)), none))
	want := singles(most)
	want[most-1] = line(10*most+5, most)
	then, f = wait.Move(singles(most), 10*most, 10*most+5, 1)
	same(t, "MaxList lines, to a new line", fmt.Sprint(then, f), fmt.Sprint(want, none))
}

// P4.3 and P4.5: what Check says, whatever is asked.
func TestWakeAndMoveFaults(t *testing.T) {
	for _, w := range wrongs() {
		for _, at := range []int{5, 6, -1} {
			for _, n := range []int{-1, 0, 1, api.MaxList} {
				then, woken, f := wait.Wake(w.l, at, n)
				same(t, w.what+", wake", f, w.want)
				bare(t, w.what+", wake", then, woken, 0)
				then, f = wait.Move(w.l, 5, at, n)
				same(t, w.what+", move", f, w.want)
				bare(t, w.what+", move", then, nil, 0)
			}
		}
	}
}
