package code_test

import (
	"fmt"
	"math"
	"math/big"
	"math/rand"
	"regexp"
	"slices"
	"strings"
	"testing"

	"taskmill/api"
	"taskmill/code"
)

// rule is a fault, and whether it applies.
type rule struct {
	applies bool
	f       api.Fault
}

// firstOf is the first fault that applies.
func firstOf(rules ...rule) api.Fault {
	for _, r := range rules {
		if r.applies {
			return r.f
		}
	}
	return none
}

func outside(n, low, high int) bool { return n < low || n > high }

// isOf: is a number of a kind?
func isOf(p api.Program, kind byte, n int) bool {
	switch kind {
	case 'n':
		return true
	case 'r':
		return !outside(n, 0, 7)
	case 'c':
		return !outside(n, 0, len(p.Code)-1)
	case 'm':
		return !outside(n, 0, p.Cells-1)
	case 'p':
		return !outside(n, 0, len(p.Pipes)-1)
	case 'l':
		return !outside(n, 0, p.Locks-1)
	case 'g':
		return !outside(n, 0, p.Groups-1)
	case 'k':
		return n == 0 || n == 1
	}
	return n == 0
}

// checkRules are a program's faults as the document names them.
func checkRules(p api.Program) []rule {
	rules := []rule{
		{len(p.Code) > 1000 || len(p.Pipes) > 20, fault(api.ErrMany, 0)},
		{outside(p.Cells, 0, 20) || outside(p.Locks, 0, 20) || outside(p.Groups, 0, 20), fault(api.ErrRange, 0)},
	}
	for at, n := range p.Pipes {
		rules = append(rules, rule{outside(n, 0, 100), fault(api.ErrSize, at)})
	}
	for at, i := range p.Code {
		place := slices.IndexFunc(table(), func(r opRow) bool { return r.op == i.Op })
		rules = append(rules, rule{place < 0, fault(api.ErrKind, at)})
		if place >= 0 {
			kinds := table()[place].kinds
			rules = append(rules, rule{!isOf(p, kinds[0], i.A) || !isOf(p, kinds[1], i.B), fault(api.ErrForm, at)})
		}
	}
	return rules
}

// ran is what Run answers.
type ran struct {
	next int
	regs [8]int
	done int
	f    api.Fault
}

func ranOf(next int, regs [8]int, done int, f api.Fault) ran { return ran{next, regs, done, f} }

// wrapped is a number as Go's int would hold it, reckoned in numbers that have no end.
func wrapped(n *big.Int) int {
	whole := new(big.Int).Lsh(big.NewInt(1), 64)
	n = new(big.Int).Mod(n, whole)
	if n.Bit(63) == 1 {
		n.Sub(n, whole)
	}
	return int(n.Int64())
}

func runByTheWords(p api.Program, pc int, regs [8]int, fuel int) ran {
	rules := append(checkRules(p), rule{outside(pc, 0, len(p.Code)) || outside(fuel, 0, api.MaxOps), fault(api.ErrRange, -1)})
	if f := firstOf(rules...); f != none {
		return ran{f: f}
	}
	done := 0
	for ; done < fuel && pc != len(p.Code) && !outside(p.Code[pc].Op, api.OpSet, api.OpZero); done++ {
		i := p.Code[pc]
		big1, big2 := big.NewInt(int64(regs[i.A%8])), big.NewInt(int64(regs[(i.B%8+8)%8]))
		next := pc + 1
		if i.Op == api.OpJump || i.Op == api.OpZero && regs[i.A] == 0 {
			next = map[int]int{api.OpJump: i.A, api.OpZero: i.B}[i.Op]
		}
		pc = next
		switch i.Op {
		case api.OpSet:
			regs[i.A] = i.B
		case api.OpCopy:
			regs[i.A] = wrapped(big2)
		case api.OpAdd:
			regs[i.A] = wrapped(new(big.Int).Add(big1, big2))
		case api.OpSub:
			regs[i.A] = wrapped(new(big.Int).Sub(big1, big2))
		case api.OpLess:
			regs[i.A] = (1 - big1.Cmp(big2)) / 2
		}
	}
	return ran{pc, regs, done, none}
}

func textByTheWords(p api.Program) (string, api.Fault) {
	if f := firstOf(checkRules(p)...); f != none {
		return "", f
	}
	text := ""
	for _, i := range p.Code {
		r := table()[i.Op-1]
		text += r.name
		for argument, kind := range r.kinds {
			if kind != '-' {
				text += fmt.Sprintf(" %s%d", letters()[kind], [2]int{i.A, i.B}[argument])
			}
		}
		text += "\n"
	}
	return text, none
}

// patterns are how the line of each op is written, in the order of the table.
var patterns = func() []*regexp.Regexp {
	var list []*regexp.Regexp
	for _, r := range table() {
		pattern := r.name
		for _, kind := range r.kinds {
			if kind != '-' {
				pattern += " " + letters()[kind] + "(0|-?[1-9][0-9]*)"
			}
		}
		list = append(list, regexp.MustCompile(`\A`+pattern+`\z`))
	}
	return list
}()

// lineByTheWords reads a line, if it is written so, its numbers being within Go's int.
func lineByTheWords(line string) (api.Instr, bool) {
	for place, pattern := range patterns {
		found := pattern.FindStringSubmatch(line)
		if found == nil {
			continue
		}
		arguments := [2]int{}
		for at, digits := range found[1:] {
			n, _ := new(big.Int).SetString(digits, 10)
			if !n.IsInt64() {
				return api.Instr{}, false
			}
			arguments[at] = int(n.Int64())
		}
		return in(table()[place].op, arguments[0], arguments[1]), true
	}
	return api.Instr{}, false
}

func parseByTheWords(text string) ([]api.Instr, api.Fault) {
	if len(text) > api.MaxText {
		return nil, fault(api.ErrMany, 0)
	}
	var list []api.Instr
	for at, line := range strings.SplitAfter(text, "\n") {
		if line == "" {
			break // what is behind the last line feed is no line
		}
		i, right := lineByTheWords(strings.TrimSuffix(line, "\n"))
		if !right || !strings.HasSuffix(line, "\n") {
			return nil, fault(api.ErrText, at)
		}
		list = append(list, i)
	}
	return list, none
}

// askAll asks all calls for what the document's words say, and that they answer the same again.
func askAll(t *testing.T, p api.Program, pc int, regs [8]int, fuel int) api.Fault {
	t.Helper()
	want := firstOf(checkRules(p)...)
	if got := code.Check(p); got != want {
		t.Fatalf("check: got %v, want %v, of %v", got, want, p)
	}
	wantRan := runByTheWords(p, pc, regs, fuel)
	for range 2 {
		if got := ranOf(code.Run(p, pc, regs, fuel)); got != wantRan {
			t.Fatalf("run: got %v, want %v, of %v from %d, %v, %d", got, wantRan, p, pc, regs, fuel)
		}
	}
	wantText, wantF := textByTheWords(p)
	for range 2 {
		if got, f := code.Text(p); got != wantText || f != wantF {
			t.Fatalf("text: got %q %v, want %q %v, of %v", got, f, wantText, wantF, p)
		}
	}
	return wantRan.f
}

func askParse(t *testing.T, text string) api.Fault {
	t.Helper()
	want, wantF := parseByTheWords(text)
	for range 2 {
		if got, f := code.Parse(text); !slices.Equal(got, want) || f != wantF {
			t.Fatalf("parse: got %v %v, want %v %v, of %q", got, f, want, wantF, text)
		}
	}
	return wantF
}

// wildNumber is mostly a small one, at times one of the farthest, or one at an edge.
func wildNumber(r *rand.Rand) int {
	wild := append(far(), 7, 8, 19, 20, 21, 100, 101, api.MaxOps, api.MaxOps+1)
	if r.Intn(100) == 0 {
		return wild[r.Intn(len(wild))]
	}
	return r.Intn(3)
}

// wildInstr is mostly one of those that a task does by itself.
func wildInstr(r *rand.Rand, many int) api.Instr {
	i := in(1+r.Intn(22), wildNumber(r), wildNumber(r))
	if r.Intn(3) > 0 {
		i.Op = 1 + r.Intn(7)
	}
	if r.Intn(200) == 0 {
		i.Op = noOps()[r.Intn(len(noOps()))]
	}
	if i.Op < 1 || i.Op > 22 || r.Intn(20) == 0 {
		return i
	}
	switch kinds := table()[i.Op-1].kinds; {
	case kinds[0] == '-':
		i.A, i.B = 0, 0
	case kinds[1] == '-':
		i.B = 0
	case i.Op == api.OpSet && r.Intn(2) == 0:
		i.B = int(r.Uint64())
	case kinds[1] == 'k':
		i.B = r.Intn(2)
	}
	if i.Op == api.OpJump {
		i.A = r.Intn(many)
	}
	if i.Op == api.OpZero {
		i.B = r.Intn(many)
	}
	return i
}

func wildProgram(r *rand.Rand) api.Program {
	p := rich(3)
	many := r.Intn(8)
	for range many {
		p.Code = append(p.Code, wildInstr(r, many))
	}
	p.Cells += wildNumber(r)
	p.Locks += wildNumber(r)
	p.Groups += wildNumber(r)
	for range r.Intn(3) {
		p.Pipes = append(p.Pipes, wildNumber(r))
	}
	if r.Intn(20) == 0 {
		p.Pipes, p.Cells = nil, r.Intn(2)
	}
	return p
}

// P1, P11.1 to P11.3: no call panics whatever it is given, and each answers what the document's words say, and the same again.
func TestWildPrograms(t *testing.T) {
	r := rand.New(rand.NewSource(11))
	codes := map[int]int{}
	const times = 30000
	for range times {
		p := wildProgram(r)
		pc := wildNumber(r)
		if r.Intn(4) > 0 {
			pc = r.Intn(len(p.Code) + 1)
		}
		var regs [8]int
		for i := range regs {
			regs[i] = wildNumber(r)
		}
		fuel := r.Intn(30)
		if r.Intn(20) == 0 {
			fuel = wildNumber(r)
		}
		codes[askAll(t, p, pc, regs, fuel).Code]++
	}
	for _, code := range []int{api.OK, api.ErrRange, api.ErrSize, api.ErrKind, api.ErrForm} {
		if codes[code] < times/200 {
			t.Errorf("not all kinds were asked: %v", codes)
		}
	}
}

// P11.1 to P11.3, at all programs of one or two instructions with small numbers: what the document's words say.
func TestSmallPrograms(t *testing.T) {
	var all []api.Instr
	for op := range 24 {
		for a := -1; a <= 2; a++ {
			for b := -1; b <= 2; b++ {
				all = append(all, in(op, a, b))
			}
		}
	}
	regs := [8]int{0, 1, -1, 3}
	right := 0
	for _, one := range all {
		for each := range 3 {
			askAll(t, rich(each, one), 0, regs, 3)
		}
		for _, other := range all {
			if askAll(t, rich(1, one, other), 0, regs, 3) == none {
				right++
			}
		}
	}
	if right < 1000 {
		t.Errorf("%d were right", right)
	}
}

// wildText is mostly lines that are written so, some of them changed somewhere.
func wildText(r *rand.Rand) string {
	var text strings.Builder
	for range r.Intn(5) {
		row := table()[r.Intn(22)]
		text.WriteString(row.name)
		for _, kind := range row.kinds {
			if kind != '-' {
				text.WriteString(" " + letters()[kind] + fmt.Sprint(wildNumber(r)))
			}
		}
		text.WriteByte('\n')
	}
	bytes := []byte(text.String())
	for range max(0, r.Intn(5)-2) {
		const often = "\n\n\r  0-+r@cplg\x00\xff159endst"
		at, b := r.Intn(len(bytes)+1), often[r.Intn(len(often))]
		switch {
		case r.Intn(2) == 0:
			bytes = slices.Insert(bytes, at, b)
		case at < len(bytes) && r.Intn(2) == 0:
			bytes[at] = b
		case at < len(bytes):
			bytes = slices.Delete(bytes, at, at+1)
		}
	}
	return string(bytes)
}

// P1, P11.4: no text makes Parse panic, and it answers what the document's words say, and the same again.
func TestWildTexts(t *testing.T) {
	r := rand.New(rand.NewSource(12))
	codes := map[int]int{}
	const times = 30000
	for range times {
		codes[askParse(t, wildText(r)).Code]++
	}
	if codes[api.OK] < times/10 || codes[api.ErrText] < times/10 {
		t.Errorf("not all kinds were asked: %v", codes)
	}
	for range 2000 {
		bytes := make([]byte, r.Intn(50))
		for i := range bytes {
			bytes[i] = byte(r.Intn(256))
		}
		askParse(t, string(bytes))
	}
}

// P11.4, at all short texts of some letters: what the document's words say.
func TestShortTexts(t *testing.T) {
	var texts func(text string, left int)
	asked := map[int]int{}
	pieces := []string{"end", "set", "jump", " ", "\n", "r", "@", "-", "0", "1"}
	texts = func(text string, left int) {
		asked[askParse(t, text).Code]++
		for _, piece := range pieces {
			if left > 0 {
				texts(text+piece, left-1)
			}
		}
	}
	texts("", 4)
	for _, start := range []string{"set r1 ", "set ", "jump @", "end\nset r0 1", "wait g"} {
		texts(start, 3)
	}
	if asked[api.OK] < 20 {
		t.Errorf("not all kinds were asked: %v", asked)
	}
}

// P1: the farthest numbers, everywhere at once.
func TestFarthest(t *testing.T) {
	for _, n := range append(far(), 0, 1, 7, 8, 22, 23) {
		p := api.Program{Code: []api.Instr{in(n, n, n), in(api.OpSet, 0, n)}, Cells: n, Pipes: []int{n}, Locks: n, Groups: n}
		regs := [8]int{n, n, n, n, n, n, n, n}
		askAll(t, p, n, regs, n)
		for _, r := range table() {
			askAll(t, rich(1, in(r.op, n, n)), 0, regs, 1)
		}
	}
	for _, n := range []int{math.MaxInt, math.MinInt} {
		askAll(t, rich(1, in(api.OpSet, 0, n), in(api.OpSet, 1, 1), in(api.OpAdd, 0, 1), in(api.OpSub, 0, 1), in(api.OpLess, 1, 0)), 0, noRegs, 5)
	}
}
