package flow_test

import (
	"math"
	"slices"
	"strconv"
	"strings"
	"testing"

	"capstan/api"
	"capstan/flow"
)

// compareError holds the error of l that each function tells against what it is to be, and that nothing stands beside it.
func compareError(t *testing.T, l []api.Instr, want api.Errno) {
	t.Helper()
	if e := flow.Check(l); e != want {
		t.Errorf("Check: %v, not %v, of %v", e, want, l)
	}
	if loops, e := flow.Loops(l); e != want || e != 0 && len(loops) > 0 {
		t.Errorf("Loops: %v %v, not %v, of %v", loops, e, want, l)
	}
	if times, e := flow.Times(l); e != want || e != 0 && len(times) > 0 {
		t.Errorf("Times: %v %v, not %v, of %v", times, e, want, l)
	}
	if ways, e := flow.Ways(l, 0); e != want || e != 0 && len(ways) > 0 {
		t.Errorf("Ways: %v %v, not %v, of %v", ways, e, want, l)
	}
}

// compareTexts holds the error of each code against what it is to be.
func compareTexts(t *testing.T, want api.Errno, texts ...string) {
	t.Helper()
	for _, text := range texts {
		compareError(t, written(text), want)
	}
}

// P9.1: the chapter's examples.
func TestCheckExamples(t *testing.T) {
	compareTexts(t, 0, "loop 3; nop; again 0; ret", "jump 1; ret", "loop 3; jump 3; again 0; ret")
	compareTexts(t, badJump, "jump 0; ret", "jump 2; ret", "zero 2; loop 3; again 1; ret", "nop")
}

// P9.1: as many instructions as code may have, and one more, and fewer and more by far; what would be ErrJump besides is ErrOp.
func TestCheckCount(t *testing.T) {
	compareError(t, nil, badOp)
	compareError(t, []api.Instr{}, badOp)
	for _, n := range []int{1, 2, 3, 128, 199, 200} {
		compareError(t, straight(n), 0)
		compareError(t, make([]api.Instr, n), badJump)
		compareError(t, slices.Repeat([]api.Instr{{Op: ret}}, n), 0)
	}
	for _, n := range []int{201, 202, 255, 256, 257, 456, 1 << 16, 1<<16 + 100} {
		compareError(t, straight(n), badOp)
		compareError(t, make([]api.Instr, n), badOp)
		compareError(t, slices.Repeat([]api.Instr{{Op: ret}}, n), badOp)
		compareError(t, slices.Repeat([]api.Instr{{Op: loop, A: 1}}, n), badOp)
	}
}

// P9.1: an instruction that is not valid is ErrOp wherever it stands, and whatever faults that are ErrJump stand ahead of it or behind it.
func TestCheckInvalid(t *testing.T) {
	for _, i := range invalid() {
		for _, text := range []string{
			"ret", "nop; ret", "nop; nop; nop; trap", "loop 3; nop; again 0; ret", "zero 2; jump 2; ret",
			"nop", "loop 3; ret", "again 0; ret", "jump 0; nop; ret", "nop; jump 199; ret", "loop 3; again 0; again 0; ret", "zero 2; loop 3; again 1; ret",
			"loop 1; loop 1; loop 1; loop 1; loop 1; ret", "loop 2; loop 2; again 0; again 1; ret", "again 1; loop 2; nop",
		} {
			l := written(text)
			for at := range len(l) + 1 {
				compareError(t, slices.Insert(slices.Clone(l), at, i), badOp)
			}
			for at := range l {
				m := slices.Clone(l)
				m[at] = i
				compareError(t, m, badOp)
			}
		}
	}
	for _, at := range []int{0, 1, 100, 198, 199} {
		l := straight(200)
		l[at].B = 1
		compareError(t, l, badOp)
	}
}

// P9.1: every operand within its range is valid: what is ErrOp begins just beyond. An operand of a jump or an OpAgain within its range that leads nowhere is ErrJump.
func TestCheckRanges(t *testing.T) {
	for k, r := range ranges() {
		want := api.OK
		switch op := uint8(k); op {
		case jump, zero, loop, again:
			want = badJump
		}
		for _, a := range []int{r[0], r[1]} {
			compareError(t, []api.Instr{{Op: uint8(k), A: a}, {Op: ret}}, want)
		}
		for _, a := range []int{r[0] - 1, r[1] + 1, math.MinInt, math.MaxInt} {
			compareError(t, []api.Instr{{Op: uint8(k), A: a}, {Op: ret}}, badOp)
		}
	}
}

// P9.1: an OpAgain whose operand is no index, is its own, is behind it, or is one of another operation.
func TestCheckAgain(t *testing.T) {
	compareTexts(t, badJump,
		"again 0; ret", "again 1; ret", "again 2; ret", "again 199; ret", "nop; again 1; ret", "nop; again 2; ret",
		"again 1; loop 2; ret", "again 1; loop 2; again 1; ret", "nop; again 2; loop 2; ret", "loop 2; again 1; ret", "loop 2; again 2; ret", "loop 2; again 3; ret", "loop 2; again 199; ret",
		"loop 2; again 2; loop 2; again 0; ret", "loop 2; again 3; again 0; ret",
	)
	for k, r := range ranges() {
		other := api.Instr{Op: uint8(k), A: r[0]}
		switch other.Op {
		case loop, again:
			continue
		case jump, zero:
			other.A = 2
		}
		compareError(t, []api.Instr{{Op: loop, A: 2}, other, {Op: again}, {Op: ret}}, 0)
		compareError(t, []api.Instr{{Op: loop, A: 2}, other, {Op: again, A: 1}, {Op: again}, {Op: ret}}, badJump)
		compareError(t, []api.Instr{{Op: loop, A: 2}, other, {Op: again, A: 1}, {Op: ret}}, badJump)
	}
}

// P9.1: each OpLoop is the operand of exactly one OpAgain.
func TestCheckPairs(t *testing.T) {
	compareTexts(t, badJump,
		"loop 3; ret", "ret; loop 3; ret", "loop 3; loop 3; again 1; ret", "loop 3; loop 3; again 0; ret", "loop 3; again 0; loop 3; ret", "loop 3; loop 3; again 0; again 0; ret",
		"loop 3; again 0; again 0; ret", "loop 3; nop; again 0; nop; again 0; ret", "loop 3; again 0; again 0; again 0; ret", "loop 3; loop 3; again 1; again 1; ret",
		"loop 3; loop 3; again 1; again 1; again 0; ret", "loop 3; loop 3; again 1; again 0; again 1; ret", "loop 3; loop 3; again 1; again 0; again 0; ret", "loop 3; again 0; loop 3; again 2; again 0; ret", "loop 3; again 0; loop 3; again 0; again 2; ret",
	)
	compareTexts(t, 0, "loop 3; again 0; ret", "loop 3; again 0; loop 3; again 2; ret", "loop 3; loop 3; again 1; again 0; ret")
}

// P9.1: loops one behind the other, one within another, two that end at neighbouring places, loops that cross.
func TestCheckNesting(t *testing.T) {
	compareTexts(t, 0,
		"loop 2; again 0; loop 3; again 2; trap", "loop 2; nop; again 0; nop; loop 3; nop; again 4; ret",
		"loop 2; nop; loop 3; nop; again 2; nop; again 0; ret", "loop 2; nop; loop 3; nop; again 2; again 0; ret", "loop 2; loop 3; nop; again 1; nop; again 0; ret",
		"loop 2; loop 3; again 1; loop 4; again 3; again 0; ret", "loop 2; loop 3; loop 4; again 2; again 1; again 0; ret", "loop 2; ret; again 0; ret", "loop 1; trap 1; again 0; trap 2",
	)
	compareTexts(t, badJump,
		"loop 2; loop 3; again 0; again 1; ret", "loop 2; nop; loop 3; nop; again 0; nop; again 2; ret", "loop 2; nop; loop 3; again 0; again 2; ret",
		"loop 2; loop 3; loop 4; again 2; again 0; again 1; ret", "loop 2; loop 3; loop 4; again 1; again 2; again 0; ret", "loop 2; loop 3; loop 4; again 0; again 1; again 2; ret", "loop 2; loop 3; loop 4; again 1; again 0; again 2; ret",
		"loop 2; loop 3; again 1; loop 4; again 0; again 3; ret", "loop 2; nop; loop 3; again 0; loop 4; again 2; again 4; ret",
	)
}

// depthError returns the error of loops that are so deep within one another.
func depthError(depth int) api.Errno {
	if depth > 4 {
		return badJump
	}
	return 0
}

// P9.1: four loops within one another, but not five, wherever they stand, and however many stand one behind the other.
func TestCheckDepth(t *testing.T) {
	two := []int{2, 2, 2, 2, 2, 2, 2}
	for n := range 7 {
		want := depthError(n)
		compareError(t, closed(tower(0, two[:n]...)), want)
		compareError(t, closed(append(make([]api.Instr, 100), tower(100, two[:n]...)...)), want)
		compareError(t, closed(append(tower(0, two[:4]...), tower(8, two[:n]...)...)), want)
		compareError(t, closed(append(tower(0, two[:n]...), tower(2*n, two[:4]...)...)), want)
		compareError(t, closed(slices.Concat(written("loop 2; nop; again 0; loop 5; nop"), tower(5, two[:n]...), written("nop; again 3"))), depthError(n+1))
		compareError(t, closed(slices.Concat(written("loop 5"), tower(1, 2, 2, 2), tower(7, two[:n]...), written("again 0"))), depthError(n+1))
	}
	var many []api.Instr
	for len(many) < 198 {
		many = append(many, tower(len(many), 100)...)
	}
	compareError(t, closed(many), 0)
	many = nil
	for len(many) < 192 {
		many = append(many, tower(len(many), 1, 2, 3, 4)...)
	}
	compareError(t, closed(many), 0)
}

// jumpRow is code with one jump, to K, and the targets that it may have.
type jumpRow struct {
	text    string
	targets []int
}

// jumpRows returns code with one jump in each relation to loops.
func jumpRows() []jumpRow {
	return []jumpRow{
		{"jump K; ret", []int{1}},
		{"jump K; nop; nop; ret", []int{1, 2, 3}},
		{"nop; nop; jump K; nop; trap 1", []int{3, 4}},
		{"ret; jump K; ret; ret", []int{2, 3}},
		// Into a loop from ahead of it; to its OpLoop, and behind it.
		{"jump K; loop 3; nop; nop; again 1; nop; ret", []int{1, 5, 6}},
		{"jump K; loop 3; again 1; ret", []int{1, 3}},
		{"jump K; loop 3; loop 2; nop; again 2; again 1; ret", []int{1, 6}},
		// Within a loop and out of it; back to its OpLoop, to its OpAgain, and behind that.
		{"loop 3; jump K; nop; again 0; nop; ret", []int{2, 3, 4, 5}},
		{"loop 3; jump K; again 0; ret", []int{2, 3}},
		{"loop 1; nop; nop; jump K; again 0; ret", []int{4, 5}},
		// Into a loop from behind it.
		{"loop 3; nop; again 0; jump K; nop; ret", []int{4, 5}},
		{"nop; loop 3; again 1; nop; jump K; ret", []int{5}},
		// From one loop into the next.
		{"loop 2; jump K; again 0; loop 3; nop; again 3; ret", []int{2, 3, 6}},
		{"loop 2; again 0; loop 3; jump K; again 2; ret", []int{4, 5}},
		// From a loop into one within it.
		{"loop 2; jump K; loop 3; nop; again 2; nop; again 0; ret", []int{2, 5, 6, 7}},
		{"loop 2; loop 3; again 1; jump K; again 0; ret", []int{4, 5}},
		// From a loop within one, to either and out of both.
		{"loop 2; loop 3; jump K; nop; again 1; nop; again 0; nop; ret", []int{3, 4, 5, 6, 7, 8}},
		// From one loop into the next, both within one.
		{"loop 2; loop 2; jump K; again 1; loop 2; nop; again 4; again 0; ret", []int{3, 4, 7, 8}},
		// Out of one of four, and into others.
		{"loop 2; loop 2; loop 2; loop 2; jump K; again 3; again 2; again 1; again 0; ret", []int{5, 6, 7, 8, 9}},
		{"loop 2; loop 2; jump K; loop 2; loop 2; again 4; again 3; again 1; again 0; loop 2; again 9; ret", []int{3, 7, 8, 9, 11}},
	}
}

// P9.1: a jump to each index, to the one behind the last, and far beyond.
func TestCheckJumps(t *testing.T) {
	for _, x := range jumpRows() {
		n := strings.Count(x.text, ";") + 1
		for to := range n + 10 {
			want := badJump
			if slices.Contains(x.targets, to) {
				want = 0
			}
			text := strings.ReplaceAll(x.text, "K", strconv.Itoa(to))
			compareTexts(t, want, text, strings.ReplaceAll(text, "jump", "zero"))
		}
		text := strings.ReplaceAll(x.text, "K", "199")
		compareTexts(t, badJump, text, strings.ReplaceAll(text, "jump", "zero"))
	}
	long := straight(200)
	long[0] = api.Instr{Op: jump, A: 199}
	compareError(t, long, 0)
	long[198] = api.Instr{Op: zero, A: 199}
	compareError(t, long, 0)
	long[198].A = 198
	compareError(t, long, badJump)
}

// P9.1: of several jumps each is to be as it should, and one that is never reached too.
func TestCheckSomeJumps(t *testing.T) {
	compareTexts(t, 0, "jump 1; jump 2; zero 3; ret", "ret; jump 2; ret", "zero 3; zero 3; jump 3; ret")
	compareTexts(t, badJump, "jump 0; jump 2; ret", "jump 1; jump 1; ret", "jump 2; jump 0; ret", "zero 3; zero 3; jump 4; ret", "ret; jump 0; ret", "ret; zero 3; ret", "ret; zero 3; loop 2; again 2; ret", "ret; loop 2; ret", "ret; nop")
}

// P9.1: the last instruction is OpRet or OpTrap, whatever stands ahead of it, the others' ends included.
func TestCheckEnd(t *testing.T) {
	for k, r := range ranges() {
		want := badJump
		if op := uint8(k); op == ret || op == trap {
			want = 0
		}
		last := api.Instr{Op: uint8(k), A: r[0]}
		for _, ahead := range [][]api.Instr{nil, written("nop"), written("ret"), written("trap 3"), written("ret; ret"), make([]api.Instr, 199)} {
			compareError(t, append(slices.Clone(ahead), last), want)
		}
	}
	compareTexts(t, badJump, "loop 2; again 0", "ret; loop 2; again 0", "zero 1; zero 2", "ret; jump 1", "ret; jump 0", "ret; jump 2", "ret; loop 2", "ret; zero 0")
	compareTexts(t, 0, "ret", "trap 0", "trap 255", "ret; ret", "trap 1; ret", "loop 2; ret; again 0; trap 5")
}

// P9.1 to P9.3: the error and the loops of all short sequences of the opcodes that this layer tells apart.
func TestSmall(t *testing.T) {
	for l := range small() {
		want, e := errorOf(l)
		loops, got := flow.Loops(l)
		if got != e || !slices.Equal(loops, want) || flow.Check(l) != e {
			t.Fatalf("%v %v, not %v %v, of %v", loops, got, want, e, l)
		}
	}
}

// changes returns instructions to stand in code of n ones.
func changes(n int) []api.Instr {
	l := []api.Instr{{Op: nop}, {Op: ret}, {Op: loop, A: 2}, {Op: nop, B: 1}, {Op: jump, A: 199}}
	return slices.Concat(l, operands(zero, n+1), operands(again, n+1))
}

// P9.1: longer code with one change: an instruction for another one, one more, one less, two exchanged.
func TestChanged(t *testing.T) {
	faults := map[api.Errno]int{}
	check := func(l []api.Instr) {
		t.Helper()
		_, want := errorOf(l)
		if e := flow.Check(l); e != want {
			t.Fatalf("%v, not %v, of %v", e, want, l)
		}
		faults[want]++
	}
	for n := range 80 {
		l := grown(n, 5+n%20)
		for at := range l {
			for _, i := range changes(len(l)) {
				m := slices.Clone(l)
				m[at] = i
				check(m)
			}
			check(slices.Insert(slices.Clone(l), at, api.Instr{Op: nop}))
			check(slices.Delete(slices.Clone(l), at, at+1))
			m := slices.Clone(l)
			m[at], m[len(m)-1-at] = m[len(m)-1-at], m[at]
			check(m)
		}
	}
	if len(faults) != 3 || faults[0] < 2000 || faults[badJump] < 2000 || faults[badOp] < 500 {
		t.Errorf("%v", faults)
	}
}
