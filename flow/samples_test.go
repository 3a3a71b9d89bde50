package flow_test

import (
	"iter"
	"slices"
	"strconv"
	"strings"
	"testing"

	"capstan/api"
	"capstan/flow"
)

// The errors, as the chapter numbers them.
const (
	badArg  api.Errno = 2
	badOp   api.Errno = 40
	badJump api.Errno = 90
)

// Opcodes that this layer tells from the others, as api numbers them.
const (
	nop   uint8 = 0
	jump  uint8 = 26
	zero  uint8 = 27
	loop  uint8 = 28
	again uint8 = 29
	ret   uint8 = 31
	trap  uint8 = 32
)

// ranges returns for each opcode the least and the most operand that chapter 4 gives it.
func ranges() [][2]int {
	return [][2]int{
		{0, 0}, {0, 31}, {0, 15}, {0, 15}, {0, 3}, {0, 3}, {0, 0}, {0, 0}, {0, 0},
		{0, 0}, {0, 0}, {0, 0}, {0, 0}, {0, 0}, {0, 0}, {0, 0}, {0, 0}, {0, 0}, {0, 0}, {0, 0}, {0, 0}, {0, 0},
		{0, 1024}, {0, 0}, {0, 0}, {0, 0}, {0, 199}, {0, 199}, {1, 100}, {0, 199}, {0, 15}, {0, 0}, {0, 255},
	}
}

// invalid returns instructions that are not valid: of no opcode, of an operand beyond either end, and with a B.
func invalid() []api.Instr {
	var l []api.Instr
	for k, r := range ranges() {
		x := uint8(k)
		l = append(l, api.Instr{Op: x, A: r[0] - 1}, api.Instr{Op: x, A: r[1] + 1}, api.Instr{Op: x, A: r[0] + 1<<32}, api.Instr{Op: x, A: r[0], B: 1}, api.Instr{Op: x, A: r[1], B: -1})
	}
	return append(l, api.Instr{Op: 33}, api.Instr{Op: 34}, api.Instr{Op: 255}, api.Instr{Op: 33 + 128})
}

// written returns the code that is written as in the chapter: names and operands, with semicolons between.
func written(text string) []api.Instr {
	var l []api.Instr
	for line := range strings.SplitSeq(text, ";") {
		words := strings.Fields(line)
		i := api.Instr{Op: opcode(words[0])}
		if len(words) > 1 {
			i.A, _ = strconv.Atoi(words[1])
		}
		l = append(l, i)
	}
	return l
}

// opcode returns the opcode of that name; of any other than those told apart here it is an OpPop.
func opcode(name string) uint8 {
	switch name {
	case "nop":
		return nop
	case "jump":
		return jump
	case "zero":
		return zero
	case "loop":
		return loop
	case "again":
		return again
	case "ret":
		return ret
	case "trap":
		return trap
	}
	return 6
}

// jumps tells whether the instruction is a jump, as the chapter calls them.
func jumps(i api.Instr) bool { return i.Op == jump || i.Op == zero }

// isInside tells by the chapter's own words whether the index is inside the loop.
func isInside(at int, x flow.Loop) bool { return at > x.From && at <= x.To }

// within tells whether a is inside b, its OpLoop and its OpAgain.
func within(a, b flow.Loop) bool { return isInside(a.From, b) && isInside(a.To, b) }

// share tells whether an index of n ones is inside both.
func share(a, b flow.Loop, n int) bool {
	for at := range n {
		if isInside(at, a) && isInside(at, b) {
			return true
		}
	}
	return false
}

// pairs returns by the chapter's own words the loops in the order of their OpLoops, and whether each OpAgain has its OpLoop, and each OpLoop its one OpAgain.
func pairs(l []api.Instr) ([]flow.Loop, bool) {
	var loops []flow.Loop
	for at, i := range l {
		if i.Op == again && (i.A >= at || l[i.A].Op != loop) {
			return nil, false
		}
		if i.Op != loop {
			continue
		}
		names := 0
		x := flow.Loop{From: at, Turns: i.A}
		for k, j := range l {
			if j.Op == again && j.A == at {
				names++
				x.To = k
			}
		}
		if names != 1 {
			return nil, false
		}
		loops = append(loops, x)
	}
	return loops, true
}

// nested tells by the chapter's own words whether the loops of n instructions cross nowhere, and are not too deep.
func nested(loops []flow.Loop, n int) bool {
	for i, a := range loops {
		for _, b := range loops[:i] {
			if share(a, b, n) && !within(a, b) && !within(b, a) {
				return false
			}
		}
	}
	for at := range n {
		depth := 0
		for _, x := range loops {
			if isInside(at, x) {
				depth++
			}
		}
		if depth > 4 {
			return false
		}
	}
	return true
}

// mayLead tells by the chapter's own words whether a jump of n instructions may lead from one index to another.
func mayLead(loops []flow.Loop, n, from, to int) bool {
	for _, x := range loops {
		if isInside(to, x) && !isInside(from, x) {
			return false
		}
	}
	return from < to && to < n
}

// errorOf returns by the chapter's own words the error of l, and its loops if it has none.
func errorOf(l []api.Instr) ([]flow.Loop, api.Errno) {
	if len(l) < 1 || len(l) > 200 {
		return nil, badOp
	}
	for _, i := range l {
		if int(i.Op) >= len(ranges()) {
			return nil, badOp
		}
		if r := ranges()[i.Op]; i.A < r[0] || i.A > r[1] || i.B != 0 {
			return nil, badOp
		}
	}
	loops, paired := pairs(l)
	if !paired || !nested(loops, len(l)) {
		return nil, badJump
	}
	for at, i := range l {
		if jumps(i) && !mayLead(loops, len(l), at, i.A) {
			return nil, badJump
		}
	}
	if last := l[len(l)-1].Op; last != ret && last != trap {
		return nil, badJump
	}
	return loops, 0
}

// boundsOf returns by the chapter's own words the execution bounds of n indices.
func boundsOf(loops []flow.Loop, n int) []int {
	l := make([]int, n)
	for at := range l {
		l[at] = 1
		for _, x := range loops {
			if isInside(at, x) {
				l[at] *= x.Turns
			}
		}
	}
	return l
}

// waysOf returns by the chapter's own words the successors of the index.
func waysOf(l []api.Instr, at int) []int {
	a := l[at].A
	switch l[at].Op {
	case ret, trap:
		return nil
	case jump:
		return []int{a}
	case zero:
		if a == at+1 {
			return []int{a}
		}
		return []int{at + 1, a} // a jump leads farther on
	case again:
		return []int{a + 1, at + 1} // and an OpAgain back
	}
	return []int{at + 1}
}

// tower returns loops of so many turns, one within another, the outermost first, that begin at index at.
func tower(at int, turns ...int) []api.Instr {
	var l []api.Instr
	for _, n := range turns {
		l = append(l, api.Instr{Op: loop, A: n})
	}
	for k := len(turns) - 1; k >= 0; k-- {
		l = append(l, api.Instr{Op: again, A: at + k})
	}
	return l
}

// closed returns l with an OpRet behind it.
func closed(l []api.Instr) []api.Instr { return append(slices.Clone(l), api.Instr{Op: ret}) }

// straight returns n instructions, the last of which is an OpRet and the others OpNops.
func straight(n int) []api.Instr { return closed(make([]api.Instr, n-1)) }

// sequences yields all sequences of n of the instructions. A sequence is the same memory each time.
func sequences(n int, of []api.Instr) iter.Seq[[]api.Instr] {
	return func(yield func([]api.Instr) bool) {
		l := make([]api.Instr, n)
		digits := make([]int, n)
		for {
			for k, d := range digits {
				l[k] = of[d]
			}
			if !yield(l) {
				return
			}
			k := 0
			for k < n && digits[k] == len(of)-1 {
				digits[k] = 0
				k++
			}
			if k == n {
				return
			}
			digits[k]++
		}
	}
}

// operands returns the opcode with each operand below n.
func operands(op uint8, n int) []api.Instr {
	l := make([]api.Instr, n)
	for a := range l {
		l[a] = api.Instr{Op: op, A: a}
	}
	return l
}

// small yields all sequences of up to four instructions of the opcodes that this layer tells apart, and longer ones of fewer opcodes. A sequence may be the same memory as the one before.
func small() iter.Seq[[]api.Instr] {
	return func(yield func([]api.Instr) bool) {
		plain := []api.Instr{{Op: nop}, {Op: ret}, {Op: trap, A: 7}, {Op: loop, A: 2}}
		for n := 1; n <= 4; n++ {
			for l := range sequences(n, slices.Concat(plain, operands(jump, n+1), operands(zero, n+1), operands(again, n+1))) {
				if !yield(l) {
					return
				}
			}
		}
		for l := range sequences(5, slices.Concat(operands(zero, 6)[1:], operands(again, 4), []api.Instr{{Op: ret}, {Op: loop, A: 3}})) {
			if !yield(l) {
				return
			}
		}
		for l := range sequences(5, slices.Concat(operands(zero, 6)[2:], operands(again, 4), []api.Instr{{Op: nop}, {Op: loop, A: 2}})) {
			if !yield(closed(l)) {
				return
			}
		}
		for l := range sequences(6, slices.Concat(operands(again, 5), []api.Instr{{Op: loop, A: 2}, {Op: zero, A: 5}})) {
			if !yield(closed(l)) {
				return
			}
		}
	}
}

// dice yields numbers that look like chance, the same ones each time.
type dice uint64

// below returns the next number, which is below n.
func (d *dice) below(n int) int {
	*d = *d*6364136223846793005 + 1442695040888963407
	return int(uint64(*d)>>33) % n
}

// grown returns well-formed code of as many instructions as size, one for each seed, its loops of up to three turns.
func grown(seed, size int) []api.Instr {
	d := dice(seed)
	var l []api.Instr
	var open []int
	end := func() {
		l = append(l, api.Instr{Op: again, A: open[len(open)-1]})
		open = open[:len(open)-1]
	}
	for len(l)+len(open) < size-1 {
		switch d.below(8) {
		case 0, 1:
			if len(open) < 4 && len(l)+len(open)+2 < size {
				open = append(open, len(l))
				l = append(l, api.Instr{Op: loop, A: 1 + d.below(3)})
			}
		case 2, 3:
			if len(open) > 0 {
				end()
			}
		case 4, 5:
			l = append(l, api.Instr{Op: zero})
		case 6:
			l = append(l, api.Instr{Op: jump + uint8(d.below(2))})
		case 7:
			l = append(l, api.Instr{Op: uint8(d.below(26))})
		}
	}
	for len(open) > 0 {
		end()
	}
	l = append(l, api.Instr{Op: ret + uint8(d.below(2))})
	aim(&d, l)
	return l
}

// aim gives each jump of l a target that it may have.
func aim(d *dice, l []api.Instr) {
	loops, _ := pairs(l)
	for at, i := range l {
		if !jumps(i) {
			continue
		}
		var targets []int
		for to := range l {
			if mayLead(loops, len(l), at, to) {
				targets = append(targets, to)
			}
		}
		l[at].A = targets[d.below(len(targets))]
	}
}

// paired sets the operand of each OpAgain of l to the innermost loop that is open there, and tells whether all loops are open till they end, and none is left.
func paired(l []api.Instr) bool {
	var open []int
	for at, i := range l {
		switch {
		case i.Op == loop:
			open = append(open, at)
		case i.Op == again && len(open) == 0:
			return false
		case i.Op == again:
			l[at].A = open[len(open)-1]
			open = open[:len(open)-1]
		}
	}
	return len(open) == 0
}

// aimed yields l with each choice of the targets that its jumps may have, from index at on, and tells whether to go on.
func aimed(l []api.Instr, loops []flow.Loop, at int, yield func([]api.Instr, []flow.Loop) bool) bool {
	for at < len(l) && !jumps(l[at]) {
		at++
	}
	if at == len(l) {
		return yield(l, loops)
	}
	for to := range l {
		if mayLead(loops, len(l), at, to) {
			l[at].A = to
			if !aimed(l, loops, at+1, yield) {
				return false
			}
		}
	}
	return true
}

// wellFormed yields code that is well-formed by the chapter's own words, and its loops: all that has up to six instructions of the opcodes told apart here and ends with an OpRet, and some of each length. Code may be the same memory as the one before.
func wellFormed() iter.Seq2[[]api.Instr, []flow.Loop] {
	return func(yield func([]api.Instr, []flow.Loop) bool) {
		for n := range 6 {
			for shape := range sequences(n, []api.Instr{{Op: nop}, {Op: ret}, {Op: jump}, {Op: zero}, {Op: loop, A: 2}, {Op: again}}) {
				l := closed(shape)
				if !paired(l) {
					continue
				}
				loops, _ := pairs(l)
				if !aimed(l, loops, 0, yield) {
					return
				}
			}
		}
		for n := range 600 {
			l := grown(n, 1+n%200)
			loops, _ := pairs(l)
			if !yield(l, loops) {
				return
			}
		}
	}
}

// What the samples are to be: well-formed, of all sorts.
func TestSamples(t *testing.T) {
	all, looped, most := 0, 0, 0
	for l, want := range wellFormed() {
		loops, e := errorOf(l)
		if e != 0 || !slices.Equal(loops, want) {
			t.Fatalf("%v %v, of %v", loops, e, l)
		}
		all++
		most = max(most, len(loops))
		if len(loops) > 0 && slices.ContainsFunc(l, jumps) {
			looped++
		}
	}
	if all < 20000 || looped < 3000 || most < 40 {
		t.Errorf("%d samples, %d with loops and jumps, up to %d loops", all, looped, most)
	}
}
