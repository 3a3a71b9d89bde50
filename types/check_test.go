package types_test

import (
	"math"
	"slices"
	"strconv"
	"strings"
	"testing"

	"capstan/api"
	"capstan/op"
	"capstan/sample"
	"capstan/types"
)

// compareError holds the error of the method k against what it is to be, and what else is told of it against the chapter's own words.
func compareError(t *testing.T, m api.Module, k int, want api.Errno) {
	t.Helper()
	if e := compare(t, m, k); e != want {
		t.Errorf("%d, not %d, of method %d of %v", e, want, k, m)
	}
}

// compareTexts holds the error of each code, as that of method 0 of with, against what it is to be.
func compareTexts(t *testing.T, want api.Errno, texts ...string) {
	t.Helper()
	for _, text := range texts {
		compareError(t, with(sample.Code(text)), 0, want)
	}
}

// P10.1: the chapter's examples.
func TestCheckExamples(t *testing.T) {
	for _, x := range []struct {
		text string
		want api.Errno
	}{
		{"get 0; const 0; add; ret", 0},
		{"get 0; ret; const 9; ret", badType},
		{"add; ret", badStack},
		{"get 0; zero 3; const 0; ret", badType},
	} {
		m := alone(methodOf("n", "", "n", sample.Code(x.text)))
		m.Pool = values("n")
		compareError(t, m, 0, x.want)
	}
}

// P10.1: an index of no method is ErrArg, whatever there is besides; the other methods do not matter.
func TestCheckIndex(t *testing.T) {
	good, bad := methodOf("", "", "n", sample.Code("trap")), methodOf("", "", "n", sample.Code("again 0; add; const 31"))
	for _, n := range []int{0, 1, 2, 16, 17, 40} {
		for _, x := range []api.Method{good, bad} {
			m := api.Module{Methods: slices.Repeat([]api.Method{x}, n), Migrate: -1}
			for _, k := range []int{-1, -2, n, n + 1, -n - 1, n + 256, 255, 256, 1 << 32, math.MinInt, math.MaxInt} {
				compareError(t, m, k, badArg)
			}
			for k := range n {
				m.Methods[k] = good
				compareError(t, m, k, 0)
				m.Methods[k] = bad
				compareError(t, m, k, badJump)
				m.Methods[k] = x
			}
		}
	}
	compareError(t, api.Module{}, 0, badArg)
	compareError(t, api.Module{Globals: values("npn"), Pool: values("n")}, -1, badArg)
}

// badCodes returns code that is not well-formed, by its error.
func badCodes() map[api.Errno][][]api.Instr {
	return map[api.Errno][][]api.Instr{
		badOp: {
			nil, {}, slices.Repeat(sample.Code("trap"), 201), append(slices.Repeat(sample.Code("get 5"), 200), sample.Code("ret")...),
			{{Op: api.OpCount}, {Op: api.OpRet}}, {{Op: 255}, {Op: api.OpRet}}, {{Op: api.OpNop, B: 1}, {Op: api.OpRet}}, {{Op: api.OpTrap, A: 256}},
			sample.Code("get 16; ret"), sample.Code("set -1; ret"), sample.Code("const 32; ret"), sample.Code("const -1; ret"), sample.Code("load 4; ret"), sample.Code("store -1; ret"), sample.Code("call 16; ret"), sample.Code("call -1; ret"),
			sample.Code("add; loop 0; jump 0"), sample.Code("nop; dup 1; nop"),
		},
		badJump: {
			sample.Code("nop"), sample.Code("ret; add"), sample.Code("jump 0; ret"), sample.Code("jump 2; ret"), sample.Code("nop; zero 1; ret"), sample.Code("zero 2; loop 3; again 1; ret"),
			sample.Code("loop 3; ret"), sample.Code("again 0; ret"), sample.Code("nop; again 0; ret"), sample.Code("loop 2; loop 2; again 0; again 1; ret"), sample.Code("loop 3; again 0; again 0; ret"),
			sample.Code("loop 2; loop 2; loop 2; loop 2; loop 2; again 4; again 3; again 2; again 1; again 0; ret"),
		},
	}
}

// P10.1: code that is not well-formed has the error of layer 9, with operands that do not exist, and with other errors of this layer, ahead of it or behind it.
func TestCheckNotWellFormed(t *testing.T) {
	for want, codes := range badCodes() {
		for _, l := range codes {
			compareError(t, with(l), 0, want)
			compareError(t, with(l), 5, badArg)
			compareError(t, alone(methodOf("", "", "x", l)), 0, want)
			compareError(t, alone(methodOf("", "", "x", l)), 1, badArg)
			for _, text := range []string{"const 9", "get 15", "set 9", "load 3", "store 3", "call 9", "add", "get 2; re; conj"} {
				compare(t, with(slices.Concat(l, sample.Code(text))), 0)
				compare(t, with(slices.Concat(sample.Code(text), l)), 0)
			}
		}
	}
	compareTexts(t, badJump, "get 9; jump 0; ret", "jump 0; get 9; ret", "call 9; nop", "const 3; loop 3; set 7; ret", "load 2; store 2; zero 2; loop 3; again 3; ret", "add; pop; nop")
	compareTexts(t, badOp, "get 9; get 16; ret", "call 9; jump 0; trap 256; ret", "const 3; const 32", "store 3; loop 101; ret", "add; load 4; ret")
}

// sized returns a module with so many constants, arguments, other locals, globals and methods, the first of which has that code.
func sized(pool, args, locals, globals, methods int, code []api.Instr) api.Module {
	n := func(count int) string { return strings.Repeat("n", count) }
	m := api.Module{Globals: values(n(globals)), Pool: values(n(pool)), Methods: []api.Method{methodOf(n(args), n(locals), "n", code)}, Migrate: -1}
	for len(m.Methods) < methods {
		m.Methods = append(m.Methods, methodOf("", "", "n", sample.Code("trap")))
	}
	return m
}

// operand is an instruction whose operand is to exist, and a module in which the operands below n do.
type operand struct {
	name string
	n    int
	m    func(code []api.Instr) api.Module
}

// operands returns each instruction whose operand is to exist, with each number of operands that do.
func operands() []operand {
	var l []operand
	for n := range 41 {
		if n <= 32 {
			l = append(l, operand{"const", n, func(c []api.Instr) api.Module { return sized(n, 0, 0, 0, 1, c) }})
		}
		for _, args := range []int{0, n / 2, n} {
			for _, name := range []string{"get", "set"} {
				l = append(l, operand{name, n, func(c []api.Instr) api.Module { return sized(0, args, n-args, 0, 1, c) }})
			}
		}
		for _, name := range []string{"load", "store"} {
			l = append(l, operand{name, n, func(c []api.Instr) api.Module { return sized(0, 0, 0, n, 1, c) }})
		}
		if n > 0 {
			l = append(l, operand{"call", n, func(c []api.Instr) api.Module { return sized(0, 0, 0, 0, n, c) }})
		}
	}
	return l
}

// ahead returns what pushes the integer that an instruction of that name takes here, if it takes one.
func ahead(name string) string {
	if name == "set" || name == "store" {
		return "new 3; len; "
	}
	return ""
}

// P10.1: the least operand that does not exist is ErrType wherever it stands, and whatever errors there are besides; the greatest one that exists is none.
func TestCheckOperands(t *testing.T) {
	for _, x := range operands() {
		opcode, _ := op.Parse(x.name)
		_, most := op.Bounds(opcode)
		this := x.name + " " + strconv.Itoa(x.n)
		if x.n <= most {
			for _, text := range []string{this + "; trap", "trap; " + this + "; trap", "jump 2; " + this + "; trap", "ret; " + this + "; ret", "trap; nop; pop; " + this + "; ret", "add; " + this + "; trap", this + "; add; trap", "trap; " + this + "; " + this + "; add; ret"} {
				compareError(t, x.m(sample.Code(text)), 0, badType)
			}
			compareError(t, x.m(slices.Concat(sample.Code("trap"), sample.Code(this), slices.Repeat(sample.Code("ret"), 198))), 0, badType)
			compareError(t, x.m(slices.Concat(slices.Repeat(sample.Code("trap"), 198), sample.Code(this), sample.Code("ret"))), 0, badType)
		}
		if last := min(x.n-1, most); last >= 0 {
			this := x.name + " " + strconv.Itoa(last)
			compareError(t, x.m(sample.Code("trap; "+this+"; trap")), 0, 0)
			compareError(t, x.m(sample.Code("trap; "+this+"; add; ret")), 0, 0)
			compareError(t, x.m(sample.Code(this+"; add; ret")), 0, badStack)
		}
	}
}

// P10.1: the greatest operand that exists has the kind of what it names, arguments and other locals being numbered together.
func TestCheckNumbering(t *testing.T) {
	for n, args := range []string{"", "n", "np", "npr", "nprp", "nprpp"} {
		m := alone(methodOf(args, "rpn", "n", nil))
		for a, want := range kinds(args + "rpn") {
			m.Methods[0].Code = []api.Instr{{Op: api.OpGet, A: a}, {Op: api.OpTrap}}
			rows, e := types.Rows(m, 0)
			if e != 0 || len(rows) != 2 || !slices.Equal(rows[1].Kinds, []uint8{want}) {
				t.Errorf("get %d of %q: %v %d", a, args, rows, e)
			}
			m.Methods[0].Code = append([]api.Instr{{Op: api.OpGet, A: a}, {Op: api.OpSet, A: a}}, sample.Code("trap")...)
			compareError(t, m, 0, 0)
		}
		m.Methods[0].Code = sample.Code("get " + strconv.Itoa(n+3) + "; trap")
		compareError(t, m, 0, badType)
	}
}

// around returns code in which an instruction follows others, and the index at which it stands.
func around(l []api.Instr, i api.Instr) []api.Instr {
	at := len(l)
	switch i.Op {
	case api.OpJump, api.OpZero:
		i.A = at + 1
	case api.OpLoop:
		return slices.Concat(l, []api.Instr{i, {Op: api.OpAgain, A: at}, {Op: api.OpTrap}})
	case api.OpAgain:
		return slices.Concat(l, []api.Instr{{Op: api.OpLoop, A: 3}, {Op: api.OpAgain, A: at}, {Op: api.OpTrap}})
	}
	return slices.Concat(l, []api.Instr{i, {Op: api.OpTrap}})
}

// stacks yields what may stand on the stack: up to four values of each kind.
func stacks(yield func(string) bool) {
	l := []string{""}
	for len(l) > 0 {
		text := l[0]
		l = l[1:]
		if !yield(text) {
			return
		}
		if len(text) < 4 {
			l = append(l, text+"n", text+"p", text+"r")
		}
	}
}

// P10.1: each instruction, with each operand that exists, on each stack of up to four values: too few, too few of another kind, of another kind at each place, and those that suit.
func TestCheckStacks(t *testing.T) {
	for text := range stacks {
		for _, i := range instructions(1) {
			l := around(pushes(text), i)
			if m := with(l); !missing(m, m.Methods[0], i) {
				if e := compare(t, m, 0); e != 0 && e != badType && e != badStack {
					t.Errorf("%d, of %v", e, l)
				}
			}
		}
	}
}

// suits is an instruction, what it takes here and what it leaves there.
type suits struct{ text, takes, leaves string }

// allSuits returns each instruction as chapter 4, this one and with have it.
func allSuits() []suits {
	return []suits{
		{"nop", "", ""}, {"jump", "", ""}, {"loop 3", "", ""}, {"again", "", ""}, {"trap 9", "", ""},
		{"add", "nn", "n"}, {"sub", "nn", "n"}, {"mul", "nn", "n"}, {"div", "nn", "n"}, {"rem", "nn", "n"}, {"less", "nn", "n"}, {"same", "nn", "n"},
		{"pair", "nn", "p"}, {"re", "p", "n"}, {"im", "p", "n"}, {"padd", "pp", "p"}, {"pmul", "pp", "p"}, {"conj", "p", "p"},
		{"new 5", "n", "r"}, {"at", "rn", "n"}, {"put", "rnn", ""}, {"len", "r", "n"}, {"zero", "n", ""},
		{"const 0", "", "n"}, {"const 1", "", "p"}, {"get 0", "", "n"}, {"get 1", "", "r"}, {"get 2", "", "p"}, {"get 3", "", "n"}, {"get 4", "", "r"}, {"load 0", "", "n"}, {"load 1", "", "p"},
		{"set 0", "n", ""}, {"set 1", "r", ""}, {"set 2", "p", ""}, {"set 3", "n", ""}, {"set 4", "r", ""}, {"store 0", "n", ""}, {"store 1", "p", ""},
		{"call 0", "nr", "n"}, {"call 1", "pn", "p"}, {"call 2", "", "n"}, {"call 3", "r", "n"}, {"call 4", "nprn", "p"}, {"ret", "n", ""},
	}
}

// P10.1: each instruction on just what it takes, with other values below, with one value too few, and with one of another kind at each place.
func TestCheckSuits(t *testing.T) {
	for _, x := range allSuits() {
		i := sample.Code(x.text)[0]
		for _, below := range []string{"", "n", "p", "r", "rpn"} {
			l := around(pushes(below+x.takes), i)
			rows, e := types.Rows(with(l), 0)
			if e != 0 {
				t.Errorf("%s of %s: %d", x.text, below+x.takes, e)
				continue
			}
			if last := rows[len(rows)-1]; last.Reached && string(last.Kinds) != string(kinds(below+x.leaves)) {
				t.Errorf("%s of %s: %v", x.text, below+x.takes, rows)
			}
			for n := range x.takes {
				for _, letter := range strings.ReplaceAll("npr", x.takes[n:n+1], "") {
					text := below + x.takes[:n] + string(letter) + x.takes[n+1:]
					compareError(t, with(around(pushes(text), i)), 0, badType)
				}
			}
		}
		for n := range x.takes {
			compareError(t, with(around(pushes(x.takes[n+1:]), i)), 0, badStack)
			for _, letter := range []string{"n", "p", "r"} {
				compareError(t, with(around(pushes(strings.Repeat(letter, n)), i)), 0, badStack)
			}
		}
	}
}

// P10.1: OpPop, OpDup and OpSwap, of each kind, of equal kinds and of different ones, with others below and with too few.
func TestCheckAny(t *testing.T) {
	for _, x := range []struct{ text, before, after string }{
		{"pop", "n", ""}, {"pop", "p", ""}, {"pop", "r", ""}, {"pop", "npr", "np"}, {"pop", "rpn", "rp"},
		{"dup", "n", "nn"}, {"dup", "p", "pp"}, {"dup", "r", "rr"}, {"dup", "np", "npp"}, {"dup", "pr", "prr"}, {"dup", "rpn", "rpnn"},
		{"swap", "nn", "nn"}, {"swap", "np", "pn"}, {"swap", "pn", "np"}, {"swap", "nr", "rn"}, {"swap", "rn", "nr"}, {"swap", "pr", "rp"}, {"swap", "rp", "pr"}, {"swap", "npr", "nrp"}, {"swap", "rpn", "rnp"}, {"swap", "pprn", "ppnr"},
	} {
		rows, e := types.Rows(with(around(pushes(x.before), sample.Code(x.text)[0])), 0)
		if e != 0 || string(rows[len(rows)-1].Kinds) != string(kinds(x.after)) {
			t.Errorf("%s of %s: %v %d", x.text, x.before, rows, e)
		}
	}
	compareTexts(t, badStack, "pop; trap", "dup; trap", "swap; trap", "get 0; swap; trap", "get 1; swap; trap", "get 2; swap; trap", "get 0; pop; pop; trap", "get 0; dup; swap; pop; pop; pop; trap")
}

// P10.1: calls of methods with any number of arguments, of the method itself, and of methods whose code has an error.
func TestCheckCalls(t *testing.T) {
	args := ""
	for n := range 12 {
		m := with(nil)
		m.Methods[3] = methodOf(args, "n", "r", sample.Code("add"))
		call := sample.Code("call 3; len; ret")
		m.Methods[0].Code = append(pushes(args), call...)
		compareError(t, m, 0, 0)
		m.Methods[0].Code = append(pushes("p"+args), call...)
		compareError(t, m, 0, 0)
		if n > 0 {
			m.Methods[0].Code = append(pushes(args[1:]), call...)
			compareError(t, m, 0, badStack)
			m.Methods[0].Code = append(pushes("p"+args[1:]), call...)
			compareError(t, m, 0, badType)
		}
		args += string("nrp"[n%3])
	}
	compareTexts(t, 0, "get 0; get 1; call 0; ret", "get 2; get 0; get 1; call 0; ret", "call 2; ret", "get 1; call 3; ret", "get 0; get 2; get 1; call 2; call 4; im; ret")
	compareTexts(t, badType, "get 1; get 0; call 0; ret", "get 0; get 1; call 0; re; ret", "get 0; get 1; swap; call 0; ret", "get 0; call 3; ret", "get 0; get 2; call 1; re; ret", "get 2; get 0; call 1; ret", "call 5; ret")
	compareTexts(t, badStack, "call 0; ret", "get 1; call 0; ret", "get 0; call 0; ret", "call 3; ret", "get 2; get 1; get 0; call 4; re; ret", "call 2; call 4; ret")
	self := alone(methodOf("", "", "p", sample.Code("call 0; call 0; padd; ret")))
	compareError(t, self, 0, 0)
	many := sized(0, 0, 0, 0, 40, sample.Code("call 15; trap"))
	many.Methods[15] = methodOf(strings.Repeat("n", 100000), "", "n", nil)
	compareError(t, many, 0, badStack)
}

// P10.1: OpRet takes the one value of the method's result from the top, whatever is below.
func TestCheckRet(t *testing.T) {
	for _, result := range []string{"n", "p", "r", "o", "x"} {
		for text := range stacks {
			m := with(append(pushes(text), sample.Code("ret")...))
			m.Methods[0].Result = kindOf(result[0])
			want := badType
			if text == "" {
				want = badStack
			} else if strings.HasSuffix(text, result) {
				want = 0
			}
			compareError(t, m, 0, want)
		}
	}
}

// P10.1: a way that meets another one with an equal row, with one of another length, and with one of other kinds, at the top and below it.
func TestCheckMeets(t *testing.T) {
	for one := range stacks {
		for other := range stacks {
			if len(one) > 3 || len(other) > 3 {
				continue
			}
			want := badType
			if one == other {
				want = 0
			}
			// zero X; one; jump Y; X: other; Y: trap
			x := 3 + len(one)
			y := x + len(other)
			l := slices.Concat(sample.Code("get 0"), []api.Instr{{Op: api.OpZero, A: x}}, pushes(one), []api.Instr{{Op: api.OpJump, A: y}}, pushes(other), sample.Code("trap"))
			compareError(t, with(l), 0, want)
			// Under it a row that is the same on both ways.
			l = slices.Concat(sample.Code("get 2; get 0"), []api.Instr{{Op: api.OpZero, A: x + 1}}, pushes(one), []api.Instr{{Op: api.OpJump, A: y + 1}}, pushes(other), sample.Code("trap"))
			compareError(t, with(l), 0, want)
		}
	}
	compareTexts(t, 0, "get 0; zero 2; trap", "get 0; zero 4; get 0; ret; trap", "get 0; zero 4; get 0; pop; trap", "get 2; get 0; zero 5; conj; nop; re; ret", "get 0; dup; zero 5; dup; trap; nop; ret", "get 0; dup; zero 5; pop; get 3; ret")
	compareTexts(t, badType, "get 0; zero 3; get 0; trap", "get 0; get 0; zero 4; pop; trap", "get 0; get 0; zero 5; pop; get 1; trap", "get 0; dup; zero 5; pop; get 2; trap", "get 0; dup; zero 4; dup; trap")
	// Three ways that meet, of which the last differs.
	compareTexts(t, 0, "get 0; zero 6; get 0; zero 6; get 0; pop; trap")
	compareTexts(t, badType, "get 0; zero 6; get 0; zero 6; nop; get 0; trap", "get 1; get 0; zero 7; get 0; zero 7; len; nop; trap")
}

// P10.1: a loop whose row at its OpAgain is equal to the one behind its OpLoop, and one whose is not, by its length or by its kinds.
func TestCheckLoops(t *testing.T) {
	compareTexts(t, 0,
		"loop 2; again 0; trap", "loop 2; get 0; pop; again 0; trap", "get 0; loop 100; get 3; add; again 1; ret", "get 2; loop 3; conj; again 1; re; ret", "get 0; get 0; loop 2; swap; again 2; add; ret",
		"get 0; loop 3; loop 2; dup; add; again 2; again 1; ret", "loop 2; get 0; zero 4; nop; again 0; trap", "loop 2; trap; again 0; trap", "loop 2; get 0; ret; again 0; trap", "loop 2; jump 3; again 0; trap", "loop 2; get 0; jump 4; again 0; ret",
		"get 0; loop 1; pop; get 1; len; again 1; ret", "loop 2; get 0; zero 6; nop; jump 5; again 0; trap",
		"loop 3; trap; get 0; again 0; add; ret",
	)
	compareTexts(t, badType,
		"loop 2; get 0; again 0; trap", "loop 1; get 0; again 0; ret", "get 0; loop 2; pop; again 1; trap", "get 0; loop 2; pop; get 1; again 1; trap", "get 0; loop 2; pop; get 2; again 1; re; ret", "get 0; get 1; loop 2; swap; again 2; trap",
		"get 1; get 0; loop 2; swap; again 2; trap", "get 0; loop 3; loop 2; dup; again 2; again 1; ret", "get 0; loop 3; loop 2; again 2; dup; again 1; ret", "get 0; get 2; loop 1; swap; again 2; trap", "get 0; loop 2; dup; again 1; trap",
		"loop 2; get 0; zero 5; get 0; again 0; trap", "loop 2; get 0; get 0; zero 5; again 0; trap",
	)
	compareTexts(t, badStack, "get 0; loop 2; pop; pop; again 1; trap", "loop 2; pop; again 0; trap", "loop 2; again 0; pop; trap")
}

// P10.1: what is not reached does not matter for the kinds on the stack; an operand that does not exist does.
func TestCheckUnreached(t *testing.T) {
	wrong := []string{"add", "pop", "dup", "swap", "set 0", "store 1", "call 0", "call 4", "ret", "put", "conj", "re; new 3", "len", "zero 0", "get 0; add; pair", "at; get 2; ret"}
	for _, text := range wrong {
		dead := sample.Code(text)
		for n, i := range dead {
			if i.Op == api.OpZero {
				dead[n].A = 5 // which is an index of each code below, behind this one
			}
		}
		end := sample.Code("nop; nop; nop; nop; get 0; ret")
		compareError(t, with(slices.Concat([]api.Instr{{Op: api.OpJump, A: 1 + len(dead)}}, dead, end)), 0, 0)
		compareError(t, with(slices.Concat(sample.Code("get 0; ret"), dead, end)), 0, 0)
		compareError(t, with(slices.Concat(sample.Code("trap 3"), dead, end)), 0, 0)
		compareError(t, with(slices.Concat(dead, end)), 0, badStack)
		for _, lack := range []string{"const 3", "get 5", "set 5", "load 2", "store 2", "call 5"} {
			compareError(t, with(slices.Concat(sample.Code("trap 3"), dead, sample.Code(lack), end)), 0, badType)
			compareError(t, with(slices.Concat([]api.Instr{{Op: api.OpJump, A: 2 + len(dead)}}, sample.Code(lack), dead, end)), 0, badType)
		}
	}
	// What is not reached leads nowhere: its target has the row of those that are.
	compareTexts(t, 0, "jump 3; get 0; get 0; get 0; ret", "jump 2; zero 3; get 0; ret", "get 0; jump 4; get 1; zero 4; ret", "trap; loop 2; get 0; again 1; pop; trap", "trap; get 0; zero 4; get 0; trap")
}

// P10.1: of two errors at different indices that of the lower one is told, whichever it is; of too few values and a value of another kind at one index it is the first.
func TestCheckFirst(t *testing.T) {
	compareTexts(t, badStack,
		"add; conj; ret", "get 0; add; get 1; conj; ret", "get 0; zero 4; add; nop; get 1; re; ret", "get 1; add; trap", "get 2; get 2; put; trap", "get 2; at; trap", "get 0; get 0; call 4; trap", "pop; loop 2; get 0; again 1; trap",
		"get 0; zero 4; pop; get 0; trap", "get 0; zero 5; get 0; pop; pop; get 0; ret", "loop 2; get 0; add; again 0; trap",
	)
	compareTexts(t, badType,
		"get 1; conj; add; ret", "get 0; conj; pop; pop; trap", "get 0; zero 4; get 0; conj; pop; pop; trap", "get 0; zero 3; get 0; pop; pop; trap", "loop 2; get 0; again 0; pop; pop; trap", "get 1; get 0; add; add; trap", "get 0; get 1; ret; nop; trap",
		"get 0; zero 3; get 0; add; trap", "get 1; ret; add; trap",
	)
	// The target of a jump is visited only when its turn comes.
	compareTexts(t, badStack, "get 0; zero 4; swap; trap; get 1; conj; trap", "jump 3; trap; nop; pop; trap")
	compareTexts(t, badType, "get 0; zero 5; get 1; conj; trap; pop; trap")
}

// P10.1: kinds that are none are kinds like any other, and stand for no other one: a module need not be valid.
func TestCheckStrange(t *testing.T) {
	for _, odd := range []string{"o", "x"} {
		m := api.Module{Globals: values("n" + odd), Pool: values("np" + odd), Migrate: 77, Methods: []api.Method{methodOf("n"+odd, odd+"pr", odd, nil), methodOf(odd, "", odd, nil)}}
		for _, text := range []string{
			"get 1; ret", "get 2; set 1; trap", "const 2; set 2; trap", "load 1; store 1; trap", "get 1; call 1; ret", "get 1; pop; trap", "get 1; dup; swap; call 1; ret", "get 1; get 0; swap; ret", "get 0; get 1; ret",
			"get 0; zero 4; get 1; ret; const 2; ret", "get 1; loop 2; pop; load 1; again 1; ret",
		} {
			m.Methods[0].Code = sample.Code(text)
			compareError(t, m, 0, 0)
		}
		for _, text := range []string{
			"get 0; ret", "get 3; ret", "get 4; ret", "get 0; set 1; trap", "get 1; set 0; trap", "get 1; set 3; trap", "get 4; set 2; trap", "get 0; store 1; trap", "load 1; store 0; trap", "const 1; call 1; trap", "get 4; call 1; ret", "get 0; call 1; ret",
			"get 1; get 0; add; trap", "get 0; get 1; add; trap", "get 1; conj; trap", "get 1; len; trap", "get 1; zero 2; trap", "get 0; get 0; zero 4; pop; get 1; trap", "get 0; get 0; zero 5; pop; get 1; trap", "get 1; get 0; zero 5; pop; get 0; trap",
		} {
			m.Methods[0].Code = sample.Code(text)
			compareError(t, m, 0, badType)
		}
	}
}

// P10.1: all small code, and some of each length, as it is and with one change.
func TestCheckSamples(t *testing.T) {
	counts := map[api.Errno]int{}
	for l := range small() {
		counts[compare(t, with(l), 0)]++
	}
	for seed := range seeds {
		l := grown(seed)
		compareError(t, with(l), 0, 0)
		for n := range 6 {
			counts[compare(t, with(changed(seed*6+n, l)), 0)]++
		}
	}
	for _, e := range []api.Errno{0, badJump, badType, badStack} {
		if counts[e] < 2000 {
			t.Errorf("%v", counts)
		}
	}
	for k := range 7 {
		compare(t, with(sample.Code("trap")), k-1)
	}
}
