package sweep_test

import (
	"fmt"
	"slices"
	"testing"

	"taskmill/api"
)

// P16.2: GcWrite puts what is in a register, or none, into a slot.
func TestWrite(t *testing.T) {
	h := heap("0 1 -", "- 1 -", "0", "")
	for _, c := range []struct {
		text string
		then api.Heap
	}{
		{"write 0.0 1", heap("0 1 -", "1 1 -", "0", "")},
		{"write 0.2 1", heap("0 1 -", "- 1 1", "0", "")},
		{"write 0.1 0", heap("0 1 -", "- 0 -", "0", "")},
		{"write 0.1 1", h},
		{"write 0.1 2", heap("0 1 -", "- - -", "0", "")},
		{"write 0.1 -", heap("0 1 -", "- - -", "0", "")},
		{"write 0.0 -", h},
		{"write 0.0 2", h},
		{"write 1.0 1", heap("0 1 -", "- 1 -", "1", "")},
		{"write 1.0 0; write 1.0 -; write 0.2 0", heap("0 1 -", "- 1 0", "-", "")},
	} {
		askEach(t, "write", h, c.text, c.then, "2;2;2;2")
	}
}

// P16.2: GcLoad has a register get what is in a slot.
func TestLoad(t *testing.T) {
	h := heap("0 1 -", "- 1 2", "0", "")
	for _, c := range []struct{ text, roots string }{
		{"load 2 0.2", "0 1 2"},
		{"load 2 0.1", "0 1 1"},
		{"load 2 1.0", "0 1 0"},
		{"load 0 0.1", "1 1 -"},
		{"load 0 0.0", "- 1 -"},
		{"load 1 0.0", "0 - -"},
		{"load 2 0.0", "0 1 -"},
		{"load 0 0.2; load 2 1.0; load 1 2.1", "2 1 0"},
		{"load 1 1.0; load 2 1.2", "0 0 2"},
	} {
		askEach(t, "load", h, c.text, heap(c.roots, "- 1 2", "0", ""), ";;;")
	}
}

// P16.2: GcCopy has a register get what is in another one, or none.
func TestCopy(t *testing.T) {
	h := heap("0 1 -", "", "2", "")
	for _, c := range []struct{ text, roots string }{
		{"copy 2 0", "0 1 0"},
		{"copy 0 1", "1 1 -"},
		{"copy 0 2", "- 1 -"},
		{"copy 1 -", "0 - -"},
		{"copy 2 -", "0 1 -"},
		{"copy 1 1", "0 1 -"},
		{"copy 2 2", "0 1 -"},
		{"copy 2 0; copy 0 1; copy 1 2", "1 0 0"},
	} {
		askEach(t, "copy", h, c.text, heap(c.roots, "", "2", ""), ";;;")
	}
}

// P16.2: GcNew has a register get a new object: with the next number, black, with slots that hold none.
func TestNew(t *testing.T) {
	h := heap("0 -", "1", "")
	for _, c := range []struct {
		text string
		then api.Heap
	}{
		{"new 1 0", heap("0 2", "1", "", "")},
		{"new 1 1", heap("0 2", "1", "", "-")},
		{"new 0 3", heap("2 -", "1", "", "- - -")},
		{"new 1 2; new 1 0; new 0 1", heap("4 3", "1", "", "- -", "", "-")},
		{"new 1 2; write 1.1 0; write 1.0 1", heap("0 2", "1", "", "2 0")},
		{"new 1 1; new 0 1; write 1.0 0; write 0.0 1", heap("3 2", "1", "", "3", "2")},
	} {
		askEach(t, "new", h, c.text, c.then, ";;;")
	}
	askEach(t, "the first of all", heap("-"), "new 0 0", heap("0", ""), ";;;")
	askEach(t, "nobody holds it any more", heap("-"), "new 0 2; copy 0 -", heap("-", "- -"), ";;;")
	for slots := range mostSlots + 1 {
		then := heap("0 2", "1", "")
		then.Objects = append(then.Objects, nothings(slots))
		askEach(t, "of so many slots", h, fmt.Sprint("new 1 ", slots), then, ";;;")
	}
}

// P16.2: new ones where there are 499 objects, and 500.
func TestNewMany(t *testing.T) {
	for many := mostObjects - 3; many <= mostObjects; many++ {
		h, then := empties(many, 3, -1), empties(mostObjects, 3, mostObjects-1)
		if many == mostObjects {
			then.Roots[1] = -1
		}
		for barrier := range barriers {
			askCycle(t, "as many as may be", h, barrier, slices.Repeat(acts("new 1 0"), mostObjects-many), then, slices.Delete(upTo(many), 3, 4)...)
		}
		askActs(t, "one more", h, slices.Repeat(acts("new 1 0"), mostObjects-many+1), fault(api.ErrMuch, mostObjects-many))
		askActs(t, "one more, in between", h, slices.Repeat(acts("new 1 20; mark"), mostObjects-many+2), fault(api.ErrMuch, 2*(mostObjects-many)))
		askActs(t, "and one more that is wrong", h, append(slices.Repeat(acts("new 1 0"), mostObjects-many), acts("new 1 21")...), fault(api.ErrRange, mostObjects-many))
	}
	full := empties(mostObjects, 0)
	for _, text := range []string{"new 1 0", "new -1 0", "new 0 21", "new 0 -1"} {
		askActs(t, "what is not there ahead of too many", full, acts(text), fault(api.ErrRange, 0))
	}
	askActs(t, "what is not 0 ahead of too many", full, []api.Act{{Op: api.GcNew, C: 1}}, fault(api.ErrRange, 0))
	askActs(t, "nobody reaches any", empties(mostObjects, -1), acts("mark; new 0 0"), fault(api.ErrMuch, 1))
	askActs(t, "no kind ahead of too many", full, []api.Act{{Op: 0, B: 3}}, fault(api.ErrKind, 0))
	askActs(t, "other acts where there are 500", full, acts("mark; copy 0 0; copy 0 -; mark"), none)
}

// P16.2: a barrier is from 0 to 3.
func TestBarriers(t *testing.T) {
	for _, h := range []api.Heap{heap(""), heap("0 -", "1", "")} {
		for barrier := range barriers {
			askCycle(t, "a barrier", h, barrier, nil, h)
			askCycle(t, "a barrier", h, barrier, marks(api.MaxOps), h)
		}
		for _, barrier := range append(far(), -1, 4, 5, 6, 7) {
			for _, l := range [][]api.Act{nil, marks(1), {{Op: 9}}, acts("new 9 0"), marks(api.MaxOps + 1)} {
				askAct(t, fmt.Sprint(len(l)), h, barrier, l, fault(api.ErrKind, -1))
			}
		}
	}
}

// P16.2: no acts, MaxOps and one more, which is told ahead of what is wrong with one of them.
func TestManyActs(t *testing.T) {
	h := heap("0 -", "-", "")
	for _, many := range []int{0, 1, 2, api.MaxOps - 1, api.MaxOps} {
		for barrier := range barriers {
			askCycle(t, "marks", h, barrier, marks(many), h, 1)
			askCycle(t, "writes", h, barrier, slices.Repeat(acts("write 0.0 0"), many), heap("0 -", slotsOf(many > 0), ""), 1)
		}
	}
	for _, many := range []int{api.MaxOps + 1, api.MaxOps + 2, 2 * api.MaxOps} {
		askActs(t, "too many", h, marks(many), fault(api.ErrMany, -1))
		askActs(t, "too many, of no kind", h, make([]api.Act, many), fault(api.ErrMany, -1))
		askActs(t, "too many, with registers that are not there", h, slices.Repeat(acts("copy 2 2"), many), fault(api.ErrMany, -1))
	}
	askActs(t, "too many new ones", h, slices.Repeat(acts("new 1 0"), api.MaxOps+1), fault(api.ErrMany, -1))
	askActs(t, "the last of all", h, append(marks(api.MaxOps-1), api.Act{}), fault(api.ErrKind, api.MaxOps-1))
	askActs(t, "the last of all", h, append(marks(api.MaxOps-1), acts("write 1.0 -")...), fault(api.ErrRange, api.MaxOps-1))
}

// slotsOf are those of an object, as they are written: has something been written?
func slotsOf(written bool) string {
	if written {
		return "0"
	}
	return "-"
}

// P16.2: Op is one of five.
func TestNoOp(t *testing.T) {
	h := heap("0 1", "1", "0")
	for _, op := range append(far(), -1, 0, 6, 7, 8, 9) {
		for _, a := range []api.Act{{Op: op}, {Op: op, B: 1}, {Op: op, A: 1, C: 1}, {Op: op, A: -1, B: -2, C: -3}, {Op: op, A: 99, B: 99, C: 99}} {
			askActs(t, "alone", h, []api.Act{a}, fault(api.ErrKind, 0))
			askActs(t, "behind others", h, append(acts("mark; write 0.0 -; copy 0 1"), a), fault(api.ErrKind, 3))
			askActs(t, "without registers", heap("", ""), []api.Act{a}, fault(api.ErrKind, 0))
		}
	}
	for op := 1; op <= 5; op++ {
		askActs(t, "an Op", h, []api.Act{{Op: op}}, none)
	}
}

// P16.2: a register, a slot or an object that is not there, and what an Op does not speak of.
func TestNotThere(t *testing.T) {
	h := heap("0 1 -", "- 1", "", "-")
	wrong, right := fault(api.ErrRange, 0), none
	for _, c := range []struct {
		text string
		want api.Fault
	}{
		{"write 0.0 0", right}, {"write 0.1 2", right}, {"write 0.1 -", right},
		{"write -1.0 0", wrong}, {"write 3.0 0", wrong}, {"write 2.0 0", wrong}, {"write 1.0 0", wrong}, {"write -2.0 -", wrong}, {"write 16.0 -", wrong},
		{"write 0.-1 0", wrong}, {"write 0.2 0", wrong}, {"write 0.3 -", wrong}, {"write 1.-1 -", wrong}, {"write 2.0 -", wrong}, {"write 2.-1 -", wrong},
		{"write 0.0 3", wrong}, {"write 0.0 -2", wrong}, {"write 0.0 16", wrong}, {"write 0.0 500", wrong},
		{"load 0 0.0", right}, {"load 2 0.1", right}, {"load 1 0.1", right},
		{"load -1 0.0", wrong}, {"load 3 0.0", wrong}, {"load -2 0.1", wrong}, {"load 16 0.0", wrong},
		{"load 0 -1.0", wrong}, {"load 0 3.0", wrong}, {"load 0 2.0", wrong}, {"load 0 1.0", wrong}, {"load 0 -2.0", wrong}, {"load 0 16.0", wrong},
		{"load 0 0.-1", wrong}, {"load 0 0.2", wrong}, {"load 0 0.20", wrong}, {"load 0 1.-1", wrong}, {"load 0 2.-1", wrong},
		{"copy 0 0", right}, {"copy 2 1", right}, {"copy 0 2", right}, {"copy 0 -", right},
		{"copy -1 0", wrong}, {"copy 3 0", wrong}, {"copy -2 -", wrong}, {"copy 16 -", wrong},
		{"copy 0 3", wrong}, {"copy 0 -2", wrong}, {"copy 0 16", wrong},
		{"new 0 0", right}, {"new 2 20", right}, {"new 1 1", right},
		{"new -1 0", wrong}, {"new 3 0", wrong}, {"new 16 20", wrong}, {"new -2 1", wrong},
		{"new 0 -1", wrong}, {"new 0 21", wrong}, {"new 0 22", wrong}, {"new 0 -2", wrong}, {"new 0 500", wrong},
		{"mark", right},
	} {
		askActs(t, c.text, h, acts(c.text), c.want)
	}
}

// P16.2: each field of each act that is right, with each far number in it.
func TestFarFields(t *testing.T) {
	h := heap("0 1 -", "- 1", "")
	for _, a := range acts("write 0.0 0; write 0.1 -; load 2 0.0; copy 2 0; copy 0 -; new 1 0; new 0 20; mark") {
		for _, n := range append(far(), 3, 4, 15, 16, 500) {
			for _, field := range []func(*api.Act) *int{
				func(a *api.Act) *int { return &a.A },
				func(a *api.Act) *int { return &a.B },
				func(a *api.Act) *int { return &a.C },
			} {
				one := a
				*field(&one) = n
				want := fault(api.ErrRange, 0)
				if a.Op == api.GcNew && one.A == a.A && one.C == 0 && n > 0 && n <= mostSlots {
					want = none
				}
				askActs(t, fmt.Sprint(n), h, []api.Act{one}, want)
				if want != none {
					want.At = 2
				}
				askActs(t, fmt.Sprint(n, " behind others"), h, append(acts("mark; copy 1 1"), one, api.Act{}), orElse(want, fault(api.ErrKind, 3)))
			}
		}
	}
}

// orElse is a fault, or another one, if it is none.
func orElse(f, other api.Fault) api.Fault {
	if f == none {
		return other
	}
	return f
}

// P16.2: what an Op does not speak of is 0: B of GcCopy, C of GcNew, all of GcMark.
func TestNotSpokenOf(t *testing.T) {
	h := heap("0 1", "1 0", "0 1")
	for _, n := range append(far(), -1, 1, 2, 16, 20) {
		for _, a := range []api.Act{
			{Op: api.GcCopy, B: n}, {Op: api.GcCopy, A: 1, B: n}, {Op: api.GcCopy, B: n, C: -1}, {Op: api.GcCopy, B: n, C: 1},
			{Op: api.GcNew, C: n}, {Op: api.GcNew, A: 1, C: n}, {Op: api.GcNew, B: 2, C: n},
			{Op: api.GcMark, A: n}, {Op: api.GcMark, B: n}, {Op: api.GcMark, C: n}, {Op: api.GcMark, A: n, B: n, C: n}, {Op: api.GcMark, A: n, B: -n},
		} {
			askActs(t, "alone", h, []api.Act{a}, fault(api.ErrRange, 0))
			askActs(t, "behind others", h, append(acts("mark; mark; mark"), a), fault(api.ErrRange, 3))
		}
	}
	askActs(t, "nothing grey, and no registers", heap("", "0"), []api.Act{{Op: api.GcMark, A: 1}}, fault(api.ErrRange, 0))
}

// P16.2: without registers nothing but GcMark can be done.
func TestNoRegisters(t *testing.T) {
	for _, h := range []api.Heap{heap(""), heap("", "0", "")} {
		for op := 1; op <= 5; op++ {
			for _, n := range []int{-1, 0, 1} {
				want := fault(api.ErrRange, 0)
				if op == api.GcMark && n == 0 {
					want = none
				}
				askActs(t, "no registers", h, []api.Act{{Op: op, A: n}}, want)
				askActs(t, "no registers", h, []api.Act{{Op: op, A: n, C: n}}, want)
			}
		}
	}
}

// P16.2: as many registers as may be: the last one is there, and one more is not.
func TestLastRegister(t *testing.T) {
	h := empties(mostObjects-1, slices.Repeat([]int{498}, mostRegisters)...)
	h.Objects[498] = nothings(mostSlots)
	askActs(t, "the last ones", h, acts("write 15.19 15; load 15 15.19; copy 15 15; new 15 20; write 15.19 15; load 15 15.19; copy 15 -"), none)
	for _, text := range []string{"write 16.19 15", "write 15.20 15", "write 15.19 16", "load 16 15.19", "load 15 16.19", "load 15 15.20", "copy 16 15", "copy 15 16", "new 16 20", "new 15 21"} {
		askActs(t, "one more", h, acts("mark; "+text), fault(api.ErrRange, 1))
	}
}

// P16.2: act by act, as they are done: earlier ones make or mend what is wrong with a later one.
func TestMadeOrMended(t *testing.T) {
	h := heap("0 - 1", "-", "")
	for _, c := range []struct {
		what, text string
		want       api.Fault
	}{
		{"no object in the register", "write 1.0 0", fault(api.ErrRange, 0)},
		{"a new one mends", "new 1 1; write 1.0 0", none},
		{"a new one of too few slots", "new 1 1; write 1.1 0", fault(api.ErrRange, 1)},
		{"a new one of no slots", "new 1 0; load 0 1.0", fault(api.ErrRange, 1)},
		{"a copy mends", "copy 1 0; load 2 1.0", none},
		{"a copy makes", "copy 0 1; load 2 0.0", fault(api.ErrRange, 1)},
		{"none makes", "copy 0 -; write 0.0 -", fault(api.ErrRange, 1)},
		{"another object makes", "copy 0 2; write 0.0 -", fault(api.ErrRange, 1)},
		{"another object mends", "copy 2 0; write 2.0 -", none},
		{"a load makes", "load 0 0.0; write 0.0 -", fault(api.ErrRange, 1)},
		{"a write and a load mend", "write 0.0 0; load 1 0.0; load 2 1.0; write 2.0 -; load 1 0.0; write 1.0 0", fault(api.ErrRange, 5)},
		{"a write of none makes", "write 0.0 0; write 0.0 -; load 1 0.0; load 2 1.0", fault(api.ErrRange, 3)},
		{"a write of none into the slot of a new one", "new 1 20; write 1.19 1; load 2 1.19; write 2.19 -; load 2 1.19; load 1 2.19", fault(api.ErrRange, 5)},
		{"marks do not", "mark; mark; mark; write 1.0 0", fault(api.ErrRange, 3)},
		{"the first of several", "copy 0 0; copy 0 9; new 0 21; write 0.7 7", fault(api.ErrRange, 1)},
	} {
		askActs(t, c.what, h, acts(c.text), c.want)
	}
	askActs(t, "what is wrong ahead of a later one of no kind", h, []api.Act{{Op: api.GcMark}, {Op: api.GcCopy, A: 3}, {}}, fault(api.ErrRange, 1))
	askActs(t, "no kind ahead of a later one that is wrong", h, []api.Act{{Op: api.GcMark}, {}, {Op: api.GcCopy, A: 3}}, fault(api.ErrKind, 1))
}
