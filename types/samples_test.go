package types_test

import (
	"iter"
	"slices"
	"strings"
	"testing"

	"capstan/api"
	"capstan/flow"
	"capstan/op"
	"capstan/sample"
	"capstan/types"
)

// The errors, as the chapter numbers them.
const (
	badArg   api.Errno = 2
	badOp    api.Errno = 40
	badJump  api.Errno = 90
	badType  api.Errno = 100
	badStack api.Errno = 101
)

// In these tests kinds are written as letters: n an integer, p a pair, r an array; o and x are numbers that are no kinds.
const letters = "onprx"

// kindOf returns the kind that is written so.
func kindOf(letter byte) uint8 {
	if letter == 'x' {
		return 200
	}
	return uint8(strings.IndexByte(letters, letter))
}

// kinds returns the kinds that are written so.
func kinds(text string) []uint8 {
	l := make([]uint8, len(text))
	for i := range l {
		l[i] = kindOf(text[i])
	}
	return l
}

// values returns values of the kinds that are written so.
func values(text string) []api.Value {
	l := make([]api.Value, len(text))
	for i := range l {
		l[i] = api.Value{Kind: kindOf(text[i]), A: int64(i)}
	}
	return l
}

// methodOf returns a method of these kinds.
func methodOf(args, locals, result string, code []api.Instr) api.Method {
	return api.Method{Args: kinds(args), Locals: kinds(locals), Result: kindOf(result[0]), Code: code}
}

// with returns a module whose method 0 has that code; its locals are n r p n r, the first two of which are arguments, and its result is n.
func with(code []api.Instr) api.Module {
	return api.Module{
		Globals: values("np"), Pool: values("npn"), Migrate: -1,
		Methods: []api.Method{
			methodOf("nr", "pnr", "n", code),
			methodOf("pn", "", "p", sample.Code("get 0; get 1; zero 4; conj; ret")),
			methodOf("", "n", "n", sample.Code("loop 2; load 0; zero 5; load 1; store 1; again 0; get 0; ret")),
			methodOf("r", "", "n", sample.Code("get 0; len; dup; zero 5; ret; trap 7")),
			methodOf("nprn", "pp", "p", sample.Code("get 1; get 0; get 3; add; call 2; swap; pop; call 1; ret")),
		},
	}
}

// alone returns a module with nothing but one method.
func alone(x api.Method) api.Module { return api.Module{Methods: []api.Method{x}, Migrate: -1} }

// pushes returns the code that pushes values of these kinds in the method 0 of with.
func pushes(text string) []api.Instr {
	l := make([]api.Instr, len(text))
	for i := range l {
		l[i] = api.Instr{Op: api.OpGet, A: strings.IndexByte("nrp", text[i])}
	}
	return l
}

// seeds is how many samples are grown.
const seeds = 800

// anyKind stands for a value of any kind in what an instruction takes.
const anyKind = -1

// shapeOf returns by chapter 4 what an opcode takes and leaves; a question mark stands for any kind.
func shapeOf(opcode uint8) (takes, gives string) {
	switch op.Name(opcode) {
	case "add", "sub", "mul", "div", "rem", "less", "same":
		return "nn", "n"
	case "pair":
		return "nn", "p"
	case "re", "im":
		return "p", "n"
	case "padd", "pmul":
		return "pp", "p"
	case "conj":
		return "p", "p"
	case "new":
		return "n", "r"
	case "at":
		return "rn", "n"
	case "put":
		return "rnn", ""
	case "len":
		return "r", "n"
	case "zero":
		return "n", ""
	case "pop":
		return "?", ""
	}
	return "", ""
}

// wants returns these kinds as what an instruction takes.
func wants(l ...uint8) []int {
	var out []int
	for _, k := range l {
		out = append(out, int(k))
	}
	return out
}

// effectOf returns by the chapter's own words what the instruction takes, and what it leaves where it took such values.
func effectOf(m api.Module, x api.Method, i api.Instr) (takes []int, leaves func(taken []uint8) []uint8) {
	locals := slices.Concat(x.Args, x.Locals)
	always := func(l ...uint8) func([]uint8) []uint8 {
		return func([]uint8) []uint8 { return l }
	}
	switch op.Name(i.Op) {
	case "const":
		return nil, always(m.Pool[i.A].Kind)
	case "get":
		return nil, always(locals[i.A])
	case "load":
		return nil, always(m.Globals[i.A].Kind)
	case "set":
		return wants(locals[i.A]), always()
	case "store":
		return wants(m.Globals[i.A].Kind), always()
	case "dup":
		return []int{anyKind}, func(taken []uint8) []uint8 { return []uint8{taken[0], taken[0]} }
	case "swap":
		return []int{anyKind, anyKind}, func(taken []uint8) []uint8 { return []uint8{taken[1], taken[0]} }
	case "call":
		return wants(m.Methods[i.A].Args...), always(m.Methods[i.A].Result)
	case "ret":
		return wants(x.Result), always()
	}
	text, gives := shapeOf(i.Op)
	for _, letter := range []byte(text) {
		if letter == '?' {
			takes = append(takes, anyKind)
		} else {
			takes = append(takes, int(kindOf(letter)))
		}
	}
	return takes, always(kinds(gives)...)
}

// missing tells whether the operand of the instruction does not exist, by the chapter's own words.
func missing(m api.Module, x api.Method, i api.Instr) bool {
	switch op.Name(i.Op) {
	case "const":
		return i.A >= len(m.Pool)
	case "get", "set":
		return i.A >= len(slices.Concat(x.Args, x.Locals))
	case "load", "store":
		return i.A >= len(m.Globals)
	case "call":
		return i.A >= len(m.Methods)
	}
	return false
}

// afterRow returns by the chapter's own words the row after an instruction, or the error that arises there.
func afterRow(m api.Module, x api.Method, i api.Instr, row []uint8) ([]uint8, api.Errno) {
	takes, leaves := effectOf(m, x, i)
	if len(takes) > len(row) {
		return nil, badStack
	}
	rest := len(row) - len(takes)
	for n, want := range takes {
		if want != anyKind && want != int(row[rest+n]) {
			return nil, badType
		}
	}
	return slices.Concat(row[:rest], leaves(row[rest:])), 0
}

// rowsOf returns by the chapter's own words the rows of those indices that are reached, or the error of the method.
func rowsOf(m api.Module, k int) (map[int]string, api.Errno) {
	if k < 0 || k >= len(m.Methods) {
		return nil, badArg
	}
	x := m.Methods[k]
	if e := flow.Check(x.Code); e != 0 {
		return nil, e
	}
	for _, i := range x.Code {
		if missing(m, x, i) {
			return nil, badType
		}
	}
	rows := map[int]string{0: ""}
	for at, i := range x.Code {
		row, reached := rows[at]
		if !reached {
			continue
		}
		after, e := afterRow(m, x, i, []uint8(row))
		if e != 0 {
			return nil, e
		}
		ways, _ := flow.Ways(x.Code, at)
		for _, to := range ways {
			if old, is := rows[to]; is && old != string(after) {
				return nil, badType
			}
			rows[to] = string(after)
		}
	}
	return rows, 0
}

// lengthOf returns the length of the code of the method k.
func lengthOf(m api.Module, k int) int { return len(m.Methods[k].Code) }

// compare holds what the package tells of the method k against the chapter's own words, and returns the error.
func compare(t *testing.T, m api.Module, k int) api.Errno {
	t.Helper()
	want, e := rowsOf(m, k)
	rows, got := types.Rows(m, k)
	if other := types.Check(m, k); got != e || other != e {
		t.Fatalf("Rows: %d, Check: %d, not %d, of method %d of %v", got, other, e, k, m)
	}
	if e != 0 {
		if len(rows) > 0 {
			t.Fatalf("%v beside %d, of method %d of %v", rows, e, k, m)
		}
		return e
	}
	height := 0
	if len(rows) != lengthOf(m, k) {
		t.Fatalf("%d rows, not %d, of method %d of %v", len(rows), lengthOf(m, k), k, m)
	}
	for at, r := range rows {
		row, reached := want[at]
		if r.Reached != reached || string(r.Kinds) != row {
			t.Fatalf("at %d: %v, not %v %v, of method %d of %v", at, r, reached, []uint8(row), k, m)
		}
		height = max(height, len(row))
	}
	if n := types.Height(rows); n != height {
		t.Fatalf("Height: %d, not %d, of %v", n, height, rows)
	}
	return 0
}

// dice yields numbers that look like chance, the same ones each time.
type dice uint64

// below returns the next number, which is below n.
func (d *dice) below(n int) int {
	*d = *d*6364136223846793005 + 1442695040888963407
	return int(uint64(*d)>>33) % n
}

// instructions returns every opcode with every operand below some small numbers, or within its range if that is less; jumps and OpAgains lead to each index below n.
func instructions(n int) []api.Instr {
	var l []api.Instr
	for opcode := range api.OpCount {
		least, most := op.Bounds(opcode)
		switch op.Name(opcode) {
		case "jump", "zero", "again":
			most = n - 1
		case "const", "load", "store":
			most = 3
		case "get", "set", "call":
			most = 5
		case "new", "loop", "trap":
			most = least + 1
		}
		for a := least; a <= most; a++ {
			l = append(l, api.Instr{Op: opcode, A: a})
		}
	}
	return l
}

// some returns instructions that tell apart what this layer tells apart, for code of n of them.
func some(n int) []api.Instr {
	l := sample.Code("get 0; get 1; get 2; const 0; set 3; store 0; pop; dup; swap; add; pair; re; at; new 3; loop 2; call 1; call 2; ret; trap")
	for a := 1; a < n; a++ {
		l = append(l, api.Instr{Op: api.OpZero, A: a}, api.Instr{Op: api.OpJump, A: a})
	}
	for a := range n - 2 {
		l = append(l, api.Instr{Op: api.OpAgain, A: a})
	}
	return l
}

// sequences yields all sequences of n of the instructions. A sequence is the same memory each time.
func sequences(n int, of []api.Instr) iter.Seq[[]api.Instr] {
	return func(yield func([]api.Instr) bool) {
		l := make([]api.Instr, n)
		digits := make([]int, n)
		for {
			for k, d := range digits {
				l[k] = of[d]
			}
			if !yield(l) {
				return
			}
			k := 0
			for k < n && digits[k] == len(of)-1 {
				digits[k] = 0
				k++
			}
			if k == n {
				return
			}
			digits[k]++
		}
	}
}

// small yields all code of up to two instructions with small operands, all of some instructions that has three, and all well-formed code of these that has up to four ahead of an OpRet. Code may be the same memory as the one before.
func small() iter.Seq[[]api.Instr] {
	return func(yield func([]api.Instr) bool) {
		for _, all := range []iter.Seq[[]api.Instr]{sequences(1, instructions(2)), sequences(2, instructions(3)), sequences(3, some(4))} {
			for l := range all {
				if !yield(l) {
					return
				}
			}
		}
		for n := 2; n <= 4; n++ {
			for l := range sequences(n, some(n+1)) {
				l = append(slices.Clone(l), api.Instr{Op: api.OpRet})
				if flow.Check(l) == 0 && !yield(l) {
					return
				}
			}
		}
	}
}

// grower makes code for the method 0 of with that type-checks, one for each seed. Its row is what stands on the stack where the code ends now.
type grower struct {
	dice
	m     api.Module
	code  []api.Instr
	row   []uint8
	depth int   // of loops
	out   []int // jumps that are to lead behind the innermost loop
}

// add appends an instruction, which suits the row.
func (g *grower) add(i api.Instr) {
	row, e := afterRow(g.m, g.m.Methods[0], i, g.row)
	if e != 0 {
		panic(i)
	}
	g.code, g.row = append(g.code, i), row
}

// dead appends instructions that are not reached, whatever they take.
func (g *grower) dead() {
	for range g.below(3) {
		g.code = append(g.code, sample.Code("add; get 4; pop; swap; put; call 4; store 1; re; ret; nop; dup")[g.below(11)])
	}
}

// push pushes a value of that kind.
func (g *grower) push(letter byte) {
	choices := map[byte]string{'n': "get 0; get 3; const 0; const 2; load 0; call 2", 'p': "get 2; const 1; load 1", 'r': "get 1; get 4"}
	l := sample.Code(choices[letter])
	g.add(l[g.below(len(l))])
}

// plain appends an instruction that does not jump, and takes no value of those below base.
func (g *grower) plain(base int) {
	l := sample.Code("nop; set 0; set 1; set 2; set 3; set 4; store 0; store 1; pop; dup; swap; add; mul; rem; less; same; pair; re; im; padd; pmul; conj; new 9; at; put; len; call 1; call 2; call 3; call 4")
	i := l[g.below(len(l))]
	takes, _ := effectOf(g.m, g.m.Methods[0], i)
	_, e := afterRow(g.m, g.m.Methods[0], i, g.row)
	if e != 0 || len(g.row)-len(takes) < base || len(g.row) > base+8 {
		g.push("npr"[g.below(3)])
		return
	}
	g.add(i)
}

// drop pops what stands above base.
func (g *grower) drop(base int) {
	for len(g.row) > base {
		g.add(api.Instr{Op: api.OpPop})
	}
}

// branch appends an OpZero that jumps over a part, which in some cases never goes on, or has another one as its other way.
func (g *grower) branch(nest int) {
	letter := "npr"[g.below(3)]
	base := len(g.row)
	g.push('n')
	from := len(g.code)
	g.add(api.Instr{Op: api.OpZero, A: from + 1})
	row := g.row
	g.block(nest - 1)
	switch g.below(4) {
	case 0:
		g.push('n')
		g.add(api.Instr{Op: api.OpRet})
		g.dead()
	case 1:
		g.add(api.Instr{Op: api.OpTrap, A: 5})
		g.dead()
	case 2:
		g.drop(base)
		g.push(letter)
		over := len(g.code)
		g.add(api.Instr{Op: api.OpJump, A: over + 1})
		g.dead()
		g.code[from].A = len(g.code)
		g.row = row
		g.block(nest - 1)
		g.drop(base)
		g.push(letter)
		g.code[over].A = len(g.code)
		return
	default:
		g.drop(base)
	}
	g.code[from].A = len(g.code)
	g.row = row
}

// loop appends a loop, with a part inside it, out of which it jumps in some cases.
func (g *grower) loop(nest int) {
	base, out := len(g.row), g.out
	g.out = nil
	g.depth++
	from := len(g.code)
	g.add(api.Instr{Op: api.OpLoop, A: 1 + g.below(3)})
	g.block(nest - 1)
	g.drop(base)
	if g.below(2) == 0 {
		g.push('n')
		g.out = append(g.out, len(g.code))
		g.add(api.Instr{Op: api.OpZero})
		g.block(nest - 1)
		g.drop(base)
	}
	g.add(api.Instr{Op: api.OpAgain, A: from})
	for _, at := range g.out {
		g.code[at].A = len(g.code)
	}
	g.depth--
	g.out = out
}

// block appends a part that leaves what stood on the stack ahead of it, in some cases with other values above it.
func (g *grower) block(nest int) {
	base := len(g.row)
	for range 1 + g.below(5) {
		switch n := g.below(8); {
		case n == 0 && nest > 0:
			g.branch(nest)
		case n == 1 && nest > 0 && g.depth < 4:
			g.loop(nest)
		default:
			g.plain(base)
		}
	}
}

// grown returns code for the method 0 of with that type-checks, one for each seed.
func grown(seed int) []api.Instr {
	for n := range 100 {
		g := grower{dice: dice(seed*100 + n), m: with(nil)}
		for range 1 + g.below(8) {
			g.block(1 + seed%4)
		}
		g.push('n')
		g.add(api.Instr{Op: api.OpRet})
		if len(g.code) <= 200 {
			return g.code
		}
	}
	return sample.Code("get 0; ret")
}

// changed returns a copy of l with another instruction at an index, or two of them exchanged.
func changed(seed int, l []api.Instr) []api.Instr {
	d := dice(seed)
	l = slices.Clone(l)
	at, other := d.below(len(l)), d.below(len(l))
	switch d.below(4) {
	case 0:
		l[at], l[other] = l[other], l[at]
	case 1:
		l[at] = l[other]
	default:
		all := instructions(2)
		l[at] = all[d.below(len(all))]
	}
	return l
}

// typed yields code for the method 0 of with that type-checks by the chapter's own words. Code may be the same memory as the one before.
func typed() iter.Seq[[]api.Instr] {
	return func(yield func([]api.Instr) bool) {
		for l := range small() {
			if _, e := rowsOf(with(l), 0); e == 0 && !yield(l) {
				return
			}
		}
		for seed := range seeds {
			if !yield(grown(seed)) {
				return
			}
		}
	}
}

// What the samples are to be: of all sorts.
func TestSamples(t *testing.T) {
	all, looped, dead, long, high := 0, 0, 0, 0, 0
	for seed := range seeds {
		l := grown(seed)
		rows, e := rowsOf(with(l), 0)
		if e != 0 {
			t.Fatalf("%d, of %v", e, l)
		}
		all++
		long = max(long, len(l))
		for _, r := range rows {
			high = max(high, len(r))
		}
		if len(rows) < len(l) {
			dead++
		}
		if slices.ContainsFunc(l, func(i api.Instr) bool { return i.Op == api.OpAgain }) {
			looped++
		}
	}
	if dead < 200 || looped < 200 || long < 180 || high < 12 {
		t.Errorf("%d samples, %d with loops, %d with indices that are not reached, up to %d instructions, up to %d values", all, looped, dead, long, high)
	}
}
