package machine_test

import (
	"math"
	"slices"
	"strconv"
	"strings"
	"testing"

	"capstan/api"
	"capstan/sample"
)

// outside are values that are not external: some are arrays, some are not internal either.
var outside = []api.Value{ref(0), ref(1), ref(-1), {Kind: 3, B: 1}, {}, {A: 1}, {Kind: 4}, {Kind: 255, A: 1}, {Kind: 1, A: 5, B: 1}, {Kind: 1, B: -1}, {Kind: 1, B: math.MinInt64}, p(mostPart+1, 0), p(0, mostPart+1), p(-mostPart-1, 0), p(0, -mostPart-1), p(math.MinInt64, 0), p(0, math.MaxInt64), p(1<<32, 0)}

// adding returns the question what two arguments are in sum, in a method of three.
func adding() question {
	q := asked([]api.Value{n(3), n(4)}, method("", "", "const 1; ret"), method("nn", "p", "get 0; get 1; add; ret"), method("p", "", "get 0; re; ret"))
	q.method = 1
	return q
}

// P17.1: methods that do not exist.
func TestNoMethod(t *testing.T) {
	gives(t, adding(), n(7), api.Cert{Fuel: 4, Stack: 5})
	for _, k := range append([]int{3, 4, 16}, wide...) {
		q := adding()
		q.method = k
		fails(t, q, badArg)
		q.args = nil
		fails(t, q, badArg)
	}
	fails(t, asked(nil), badArg)
	for k, want := range []int64{1, 7, 9} {
		q := adding()
		q.method = k
		q.args = [][]api.Value{nil, q.args, {p(9, 8)}}[k]
		returns(t, q, n(want))
	}
}

// P17.1: fewer arguments than the method has, and more.
func TestNumberOfArguments(t *testing.T) {
	for k := range mostLocals + 3 {
		for many := range mostLocals + 3 {
			q := asked(slices.Repeat([]api.Value{n(5)}, many), method(strings.Repeat("n", k), "", "const 8; ret"))
			if k == many && k <= mostLocals {
				gives(t, q, n(8), api.Cert{Fuel: 2, Stack: k + 1})
			} else {
				fails(t, q, badArg)
			}
		}
	}
	q := asked(nil, method("", "", "const 8; ret"))
	q.args = []api.Value{}
	gives(t, q, n(8), api.Cert{Fuel: 2, Stack: 1})
}

// P17.1: an argument of another kind, or that is not external, at each place; none of an array either, though the method asks for one.
func TestOtherArguments(t *testing.T) {
	for _, kinds := range []string{"n", "p", "r", "np", "pn", "nr", "npn", "npnp", "rnpn"} {
		for at := range kinds {
			for _, v := range append([]api.Value{n(0), n(math.MinInt64), n(math.MaxInt64), p(0, 0), p(mostPart, -mostPart), p(-mostPart, mostPart)}, outside...) {
				args := sample.Values(kinds)
				args[at] = v
				q := asked(args, method(kinds, "", "const 8; ret"))
				is := !strings.Contains(kinds, "r") && (integer(v) || pair(v)) && v.Kind == sample.Kinds(kinds)[at]
				if is {
					gives(t, q, n(8), api.Cert{Fuel: 2, Stack: len(kinds) + 1})
				} else {
					fails(t, q, badArg)
				}
			}
		}
	}
}

// P17.1: a method for which there is no frame: too many locals, and kinds that are none.
func TestNoFrame(t *testing.T) {
	for k := range mostLocals + 3 {
		q := asked(sample.Values("np"), method("np", strings.Repeat("r", k), "const 8; ret"))
		if k+2 <= mostLocals {
			gives(t, q, n(8), api.Cert{Fuel: 2, Stack: k + 3})
		} else {
			fails(t, q, badArg)
		}
	}
	for _, kind := range []uint8{0, 4, 5, 16, 128, 129, 255} {
		x := method("", "nn", "const 8; ret")
		for k := range x.Locals {
			x.Locals = sample.Kinds("nn")
			x.Locals[k] = kind
			fails(t, asked(nil, x), badArg)
		}
		x.Locals, x.Args = nil, []uint8{kind}
		fails(t, asked([]api.Value{n(1)}, x), badArg)
		fails(t, asked([]api.Value{{Kind: kind}}, x), badArg)
	}
}

// P17.1: globals of another number.
func TestNumberOfGlobals(t *testing.T) {
	for k := range 6 {
		for many := range 6 {
			q := coded("const 8; ret")
			q.m.Globals, q.globals = slices.Repeat([]api.Value{n(0)}, k), slices.Repeat([]api.Value{n(1)}, many)
			if got := compare(t, q); got.e == 0 != (k == many) || got.e != 0 && got.e != badArg {
				t.Errorf("%v, of %d and %d", got, k, many)
			}
		}
	}
	q := coded("const 8; ret")
	q.m.Globals, q.globals = []api.Value{}, nil
	returns(t, q, n(8))
	q.m.Globals, q.globals = nil, []api.Value{}
	returns(t, q, n(8))
}

// P17.1: a global of another kind, or that is not external, at each place.
func TestOtherGlobals(t *testing.T) {
	for _, kinds := range []string{"n", "p", "r", "np", "pn", "npn", "npnp", "nrnp"} {
		for at := range kinds {
			for _, v := range append([]api.Value{n(0), n(math.MinInt64), n(math.MaxInt64), p(0, 0), p(mostPart, -mostPart)}, outside...) {
				q := coded("const 8; ret")
				q.m.Globals, q.globals = sample.Values(kinds), sample.Values(kinds)
				q.globals[at] = v
				is := !strings.Contains(kinds, "r") && (integer(v) || pair(v)) && v.Kind == sample.Kinds(kinds)[at]
				if is {
					gives(t, q, n(8), api.Cert{Fuel: 2, Stack: 1})
				} else {
					fails(t, q, badArg)
				}
			}
		}
	}
	// A kind that is none is not external, though it is declared.
	for _, v := range outside {
		q := coded("const 8; ret")
		q.m.Globals, q.globals = []api.Value{v}, []api.Value{v}
		fails(t, q, badArg)
	}
}

// P17.1: each limit below 0, of 0, at its greatest and above.
func TestLimits(t *testing.T) {
	q := coded("const 8; ret")
	for _, x := range []struct {
		of         func(c *api.Cert) *int
		most, need int
		e          api.Errno
	}{
		{func(c *api.Cert) *int { return &c.Fuel }, 1048576, 2, badFuel},
		{func(c *api.Cert) *int { return &c.Stack }, 256, 1, badStack},
		{func(c *api.Cert) *int { return &c.Heap }, 1024, 0, 0},
	} {
		for _, limit := range []int{math.MinInt, -1 << 32, -1<<32 + 5, -2, -1, 0, 1, 2, 3, 9, x.most - 1, x.most, x.most + 1, 2 * x.most, 1 << 32, 1<<32 + 5, math.MaxInt} {
			c := q
			*x.of(&c.limit) = limit
			switch {
			case limit < 0 || limit > x.most:
				fails(t, c, badArg)
			case limit < x.need:
				fails(t, c, x.e)
			default:
				gives(t, c, n(8), api.Cert{Fuel: 2, Stack: 1})
			}
		}
	}
	fails(t, q.limited(0, 0, 0), badFuel)
	fails(t, q.limited(-1, -1, -1), badArg)
}

// P17.1: with ErrArg nothing is executed, whatever the limits.
func TestArgumentsFirst(t *testing.T) {
	q := adding()
	q.args[1] = p(0, 0)
	fails(t, q.limited(0, 0, 0), badArg)
	fails(t, q.limited(1, 1, 0), badArg)
	q = adding()
	q.globals[0] = p(0, 0)
	fails(t, q.limited(0, 0, 0), badArg)
	q = adding()
	q.method = 7
	fails(t, q.limited(0, 0, 0), badArg)
}

// P17.1: instruction indexes that are none of the code's.
func TestPlaces(t *testing.T) {
	fails(t, coded(""), badOp)
	for _, text := range []string{"nop", "const 1", "const 1; pop", "loop 3; again 0", "const 1; zero 0", "call 1"} {
		fails(t, asked(nil, method("", "", text), method("", "", "const 1; ret")), badOp)
	}
	for _, to := range append([]int{4, 5, 200}, wide...) {
		fails(t, coded(with("jump ?; nop; const 1; ret", to)), badOp)
		fails(t, coded(with("const 0; zero ?; const 1; ret", to)), badOp)
	}
	fails(t, asked(nil, method("", "", "call 1; ret"), method("", "", "const 1")), badOp)
	fails(t, asked(nil, method("", "", "call 1; ret"), method("", "", "")), badOp)
	fails(t, asked(nil, method("", "", "nop; nop; call 1; nop; const 1; ret"), method("", "", "const 1; jump 4; ret")), badOp)
	// The last instruction may be reached by a jump, and an OpAgain may be the last one.
	gives(t, coded("jump 3; const 1; ret; jump 1"), n(1), api.Cert{Fuel: 4, Stack: 1})
	gives(t, coded("jump 3; const 1; ret; loop 2; jump 1; again 3"), n(1), api.Cert{Fuel: 5, Stack: 1})
	fails(t, coded("loop 2; again 0"), badOp)
}

// P17.1: code is executed in its whole length, longer than an accepted method's.
func TestLongCode(t *testing.T) {
	gives(t, coded("300* nop; const 1; ret"), n(1), api.Cert{Fuel: 302, Stack: 1})
	gives(t, coded("jump 257; 256* nop; const 1; ret"), n(1), api.Cert{Fuel: 3, Stack: 1})
	fails(t, coded("300* nop"), badOp)
}

// P17.1: more constants, globals and methods than an accepted module may have.
func TestManyOfAll(t *testing.T) {
	l := slices.Repeat([]api.Method{method("", "", "const 299; load 299; sub; store 299; load 299; ret")}, 300)
	l[0] = method("", "", "call 299; ret")
	q := asked(nil, l...)
	q.m.Pool, q.m.Globals, q.globals = constantsBelow(300), constantsBelow(300), constantsBelow(300)
	q.globals[299] = n(1000)
	for _, k := range []int{0, 15, 16, 17, 255, 256, 299} {
		q.method = k
		after := constantsBelow(300)
		after[299] = n(-701)
		returns(t, q, n(-701))
		leaves(t, q, after...)
	}
	for _, text := range []string{"const 300; ret", "load 300; ret", "const 0; store 300; const 0; ret", "call 300; ret"} {
		q.m.Methods[9] = method("", "", text)
		q.method = 9
		fails(t, q, badOp)
	}
}

// P17.1: opcodes that do not exist, whatever is on the stack.
func TestOpcodes(t *testing.T) {
	for opcode := range 256 {
		for a := range 3 {
			q := coded("")
			q.m.Methods[0].Code = []api.Instr{{Op: api.OpConst, A: 5}, {Op: api.OpConst, A: 5}, {Op: uint8(opcode), A: a}, {Op: api.OpConst, A: 4}, {Op: api.OpRet}}
			if got := compare(t, q.limited(99, 99, 99)); opcode >= opcodes && got.e != badOp {
				t.Errorf("%v, of %d", got, opcode)
			}
		}
	}
	if api.OpCount != opcodes {
		t.Errorf("%d", api.OpCount)
	}
}

// P17.1: constants, locals, globals and methods that do not exist; of each the last one does.
func TestNames(t *testing.T) {
	called := method("", "", "const 0; ret")
	for _, x := range []struct {
		text string
		many int
	}{{"const ?; ret", 5}, {"get ?; ret", 2}, {"const 0; set ?; const 0; ret", 2}, {"load ?; ret", 3}, {"const 0; store ?; const 0; ret", 3}, {"call ?; ret", 4}} {
		for _, a := range append([]int{0, 1, 2, 3, 4, 5, 31, 32}, wide...) {
			q := asked([]api.Value{n(1)}, called, called, called, called, method("n", "n", with(x.text, a)))
			q.method, q.m.Pool, q.m.Globals, q.globals = 4, constantsBelow(5), constantsBelow(3), constantsBelow(3)
			switch {
			case a >= 0 && a < x.many:
				compareOK(t, q)
			case x.many < 4 || a != 4: // the method 4 calls itself
				fails(t, q, badOp)
			}
		}
	}
	for _, text := range []string{"const 0; ret", "load 0; ret", "get 0; ret", "call 1; ret"} {
		q := coded(text)
		q.m.Pool, q.m.Globals, q.globals = nil, nil, nil
		fails(t, q, badOp)
	}
}

// P17.1: a constant that is not internal is not pushed; it does not matter where it is not.
func TestConstants(t *testing.T) {
	for _, v := range append([]api.Value{n(5), n(math.MinInt64), p(1, 2), p(mostPart, -mostPart), ref(1 << 40), ref(math.MaxInt64)}, outside...) {
		q := pooled("const 1; pop; const 0; ret", n(7), v)
		if internal(v) {
			gives(t, q, n(7), api.Cert{Fuel: 4, Stack: 1})
		} else {
			fails(t, q, badOp)
		}
		gives(t, pooled("const 0; ret; const 1", n(7), v), n(7), api.Cert{Fuel: 2, Stack: 1})
	}
}

// rows returns the rows of kinds of at most three values.
func rows() []string {
	l := []string{""}
	for at := 0; len(l[at]) < 3; at++ {
		for _, kind := range "npr" {
			l = append(l, l[at]+string(kind))
		}
	}
	return l
}

// pushed returns the text that pushes values of these kinds, where the constants are such as next.
func pushed(row string) string {
	return strings.NewReplacer("n", "const 0; ", "p", "const 1; ", "r", "const 2; ").Replace(row)
}

// each returns one value of each kind.
func each() []api.Value { return []api.Value{n(3), p(1, 2), ref(0)} }

// suits tells whether an instruction that takes such kinds finds them on top of a row; o is any kind.
func suits(row, kinds string) bool {
	if len(row) < len(kinds) {
		return false
	}
	for k, kind := range kinds {
		if kind != 'o' && byte(kind) != row[len(row)-len(kinds)+k] {
			return false
		}
	}
	return true
}

// P17.1: each instruction on each row of up to three values: invalid where one that it takes is not there, or is of another kind, the top one or one below.
func TestTaken(t *testing.T) {
	suited, others := 0, 0
	for name, kinds := range map[string]string{
		"nop": "", "const 0": "", "get 0": "", "load 0": "", "pop": "o", "dup": "o", "swap": "oo", "add": "nn", "sub": "nn", "mul": "nn", "div": "nn", "rem": "nn", "less": "nn", "same": "nn",
		"pair": "nn", "re": "p", "im": "p", "padd": "pp", "pmul": "pp", "conj": "p", "new 5": "n", "at": "rn", "put": "rnn", "len": "r", "jump ?": "", "zero ?": "n", "loop 2": "", "trap -16": "",
		"set 0": "n", "set 1": "p", "set 2": "r", "store 0": "n", "store 1": "p", "call 1": "", "call 2": "n", "call 3": "pn", "call 4": "rnp", "ret": "n",
	} {
		for _, row := range rows() {
			text := pushed(row) + with(name, len(row)+1) + "; trap 7"
			q := asked(nil, method("", "npr", text), method("", "", "trap"), method("n", "", "trap"), method("pn", "", "trap"), method("rnp", "", "trap"))
			q.m.Pool = each()
			if !suits(row, kinds) {
				fails(t, q, badOp)
				others++
				continue
			}
			compareOK(t, q)
			suited++
		}
	}
	if suited < 400 || others < 500 {
		t.Errorf("%d suit, %d do not", suited, others)
	}
}

// P17.1: what is stored or set is of the kind of the global or local, and stays so.
func TestStoreOther(t *testing.T) {
	for _, text := range []string{"const 11; store 0; const 0; ret", "const 3; store 1; const 0; ret", "const 13; store 0; const 0; ret", "const 13; store 1; const 0; ret", "store 0", "store 1", "load 0; store 1; const 0; ret", "load 1; store 0; const 0; ret",
		"const 11; set 0; const 0; ret", "const 13; set 0; const 0; ret", "const 3; set 1; const 0; ret", "const 13; set 1; const 0; ret", "const 3; set 2; const 0; ret", "const 11; set 2; const 0; ret", "set 0", "set 1", "set 2", "const 3; const 11; set 0; ret", "get 0; set 1; const 0; ret"} {
		fails(t, asked(nil, method("", "npr", text)), badOp)
		fails(t, asked([]api.Value{n(1), p(2, 3)}, method("np", "r", text)), badOp)
	}
}

// P17.1: a frame that is full: nothing is pushed onto it, whatever its locals are, but what takes as much as it leaves goes on.
func TestFull(t *testing.T) {
	for _, locals := range []string{"", "n", "nnnnnnnn", "nnnnnnnnnnnnnnnn"} {
		full := strconv.Itoa(256-len(locals)) + "* const 3; "
		below := strconv.Itoa(255-len(locals)) + "* const 3; "
		of := func(text string) question { return asked(nil, method("", locals, text)) }
		pushing := []string{"const 2", "dup", "load 0", "load 1", "const 11", "const 13"}
		if locals != "" {
			pushing = append(pushing, "get 0")
		}
		for _, text := range pushing {
			fails(t, of(full+text+"; trap"), badOp)
			traps(t, of(below+text+"; trap"), own, api.Cert{Fuel: 257 - len(locals), Stack: 256})
		}
		high := api.Cert{Fuel: 258 - len(locals), Stack: 256}
		gives(t, of(below+"const 4; swap; ret"), n(3), high)
		gives(t, of(full+"add; ret"), n(6), high)
		gives(t, of(full+"nop; ret"), n(3), high)
		gives(t, of(full+"new 3; len; ret"), n(3), api.Cert{Fuel: high.Fuel + 1, Stack: 256, Heap: 3})
		compareOK(t, of(full+"pop; ret"))
		compareOK(t, of(full+"pair; re; ret"))
		compareOK(t, of(full+"pop; dup; ret"))
		fails(t, of(full+"const 2; ret").limited(999, 255, 0), badStack)
		fails(t, of(full+"nop; ret").limited(999, 255, 0), badStack)
		gives(t, of(below+"nop; ret").limited(999, 255, 0), n(3), api.Cert{Fuel: 257 - len(locals), Stack: 255})
	}
	fails(t, asked(nil, method("", "", "const 3; const 3; call 1; ret"), method("", "", "255* const 3; ret")), badStack)
	compareOK(t, asked(nil, method("", "", "const 3; const 3; call 1; ret"), method("", "", "254* const 3; ret")))
}

// P17.1: an OpAgain of a loop without turns: one that was never begun, is over, has none, or is none.
func TestAgain(t *testing.T) {
	for _, text := range []string{
		"again 0; const 0; ret", "nop; again 0; const 0; ret", "loop 2; again 1; const 0; ret", "loop 2; again 2; const 0; ret", "loop 2; nop; again 1; const 0; ret", "jump 1; again 0; const 0; ret", "jump 2; loop 3; again 1; const 0; ret",
		"loop 2; again 0; again 0; const 0; ret", "loop 1; again 0; jump 1", "loop 0; again 0; const 0; ret", "loop -1; again 0; const 0; ret", "loop -9223372036854775808; again 0; const 0; ret", "const 0; pop; loop -4294967295; again 2; const 0; ret",
		"loop 2; again 3; const 0; ret",
	} {
		fails(t, coded(text), badOp)
	}
	for _, a := range wide {
		fails(t, coded(with("loop 2; again ?; const 0; ret", a)), badOp)
		if a != 256 {
			fails(t, coded(with("256* nop; loop 2; again ?; const 0; ret", a)), badOp)
		}
	}
	// An OpLoop without turns is no fault in itself.
	for _, a := range []int{0, -1, math.MinInt} {
		gives(t, coded(with("loop ?; const 8; ret", a)), n(8), api.Cert{Fuel: 3, Stack: 1})
	}
}

// P17.1: an OpCall with arguments of other kinds than the method's, or too few, and of a method for which there is no frame.
func TestCallOther(t *testing.T) {
	for _, args := range []string{"n", "p", "r", "nn", "np", "pn", "nr", "rn", "npr", "rpn", "nnnn", "nppn"} {
		for _, row := range rows() {
			q := asked(nil, method("", "", pushed(row)+"call 1; ret"), method(args, "", "const 0; ret"))
			q.m.Pool = each()
			if suits(row, args) {
				compareOK(t, q)
			} else {
				fails(t, q, badOp)
			}
		}
	}
	for _, kind := range []uint8{0, 4, 5, 16, 128, 129, 255} {
		x := method("", "", "const 0; ret")
		x.Locals = []uint8{kind}
		fails(t, asked(nil, method("", "", "const 1; call 1; ret"), x), badOp)
		x.Args, x.Locals = x.Locals, nil
		fails(t, asked(nil, method("", "", "const 1; call 1; ret"), x), badOp)
		fails(t, asked(nil, method("", "", "const 1; const 1; call 1; ret"), x), badOp)
		x.Args = []uint8{1, kind}
		fails(t, asked(nil, method("", "", "const 1; const 1; call 1; ret"), x), badOp)
	}
	for k := range mostLocals + 3 {
		for _, x := range []api.Method{method(strings.Repeat("n", k), "", "const 0; ret"), method("", strings.Repeat("p", k), "const 0; ret"), method("nn", strings.Repeat("r", max(k-2, 0)), "const 0; ret")} {
			q := asked(nil, method("", "", "20* const 1; call 1; ret"), x)
			if len(x.Args)+len(x.Locals) <= mostLocals {
				compareOK(t, q)
			} else {
				fails(t, q, badOp)
			}
		}
	}
}

// P17.1: an OpRet in a method whose result is neither an integer nor a pair, of another kind, and of nothing; of one that is called, too.
func TestResults(t *testing.T) {
	for kind := range 256 {
		for k, text := range []string{"ret", "const 3; ret", "const 11; ret", "const 13; ret", "const 3; const 11; ret", "const 11; const 3; ret"} {
			x := method("", "", text)
			x.Result = uint8(kind)
			is := kind == 1 && (k == 1 || k == 5) || kind == 2 && (k == 2 || k == 4)
			for _, q := range []question{asked(nil, x), asked(nil, method("", "", "call 1; pop; const 8; ret"), x), asked(nil, method("", "", "const 3; const 11; call 1; pop; pop; ret"), x)} {
				if is {
					compareOK(t, q)
				} else {
					fails(t, q, badOp)
				}
			}
			// Without an OpRet the result does not matter.
			x.Code = sample.Code("trap 3")
			traps(t, asked(nil, x), 19, api.Cert{Fuel: 1})
		}
	}
	fails(t, asked(nil, method("", "", "const 3; call 1; ret"), pairing(method("", "", "const 11; ret"))), badOp)
}

// P17.1: the checks in their order. ErrStack comes before ErrFuel, before ErrOp and before a trap.
func TestStackFirst(t *testing.T) {
	for _, text := range []string{"", "const 3; ret", "pop; ret", "trap 1", "const 99; ret", "new 5", "get 7; ret", "again 0", "ret"} {
		for size := 1; size < 4; size++ {
			q := asked(nil, method("", strings.Repeat("n", size), text))
			for stack := range size {
				fails(t, q.limited(0, stack, 0), badStack)
				fails(t, q.limited(9, stack, 0), badStack)
			}
			fails(t, q.limited(0, size, 0), badFuel)
		}
		q := coded("const 3; const 3; " + text)
		fails(t, q.limited(2, 1, 0), badStack)
		fails(t, q.limited(9, 1, 0), badStack)
		fails(t, q.limited(2, 2, 0), badFuel)
		fails(t, q.limited(1, 1, 0), badFuel)
	}
	q := coded("const 5; new 9; const 3; ret")
	fails(t, q.limited(9, 0, 0), badStack)
	fails(t, q.limited(9, 1, 0), badFull)
	fails(t, q.limited(9, 1, 5), badStack)
	fails(t, coded("jump 9").limited(1, 0, 0), badFuel)
	fails(t, coded("const 1; jump 9").limited(2, 1, 0), badFuel)
	fails(t, coded("const 1; jump 9").limited(2, 0, 0), badStack)
}

// P17.1: ErrFuel comes before ErrOp, before ErrFull and before a trap.
func TestFuelNext(t *testing.T) {
	for text, fuel := range map[string]int{"": 0, "pop": 0, "nop": 1, "nop; nop": 2, "jump 7": 1, "trap": 0, "nop; trap": 1, "const 3; new 5": 1, "const 3; const 0; div": 2, "const 15; len": 1, "const 3; ret": 1, "const 99": 0, "again 0": 0, "nop; call 9": 1, "const 13; ret": 1} {
		fails(t, coded(text).limited(fuel, 9, 0), badFuel)
		if got := compare(t, coded(text).limited(fuel+1, 9, 0)); got.e == badFuel {
			t.Errorf("%v, of %s", got, text)
		}
	}
}

// P17.1: ErrOp comes before ErrFull and before a trap: what is taken is looked at first, all of it.
func TestInvalidNext(t *testing.T) {
	for _, text := range []string{
		"new 5", "const 11; new 5", "const 13; new 5", "const 11; new -1",
		"const 0; div", "const 11; const 0; div", "const 13; const 0; rem", "const 0; rem", "const 0; const 11; div",
		"const 16; pair", "const 11; const 16; pair", "const 16; const 11; pair", "const 13; const 17; pair",
		"const 7; at", "const 11; const 7; at", "const 3; const 7; at", "const 15; const 11; at", "const 15; at", "const 15; const 15; at",
		"const 7; const 7; put", "const 3; const 7; const 7; put", "const 15; const 11; const 7; put", "const 15; const 7; const 11; put", "const 15; const 7; put", "const 11; const 7; const 7; put",
		"len", "const 3; len", "const 11; len",
	} {
		q := coded(text + "; const 0; ret")
		q.m.Pool[11] = p(mostPart, mostPart)
		fails(t, q.limited(99, 99, 0), badOp)
	}
	q := pooled("const 1; const 0; padd; const 1; ret", p(mostPart, mostPart), n(5))
	fails(t, q, badOp)
	q = pooled("const 0; const 1; pmul; const 1; ret", p(mostPart, mostPart), n(5))
	fails(t, q, badOp)
	q = pooled("const 0; pmul; const 1; ret", p(mostPart, mostPart), n(5))
	fails(t, q, badOp)
}

// P17.1: an OpNew that traps is not full.
func TestTrapBeforeFull(t *testing.T) {
	for _, heap := range []int{0, 3, 1023, 1024} {
		traps(t, coded("const 5; new 4; len; ret").limited(9, 9, heap), noPlace, api.Cert{Fuel: 2, Stack: 1})
		traps(t, coded("const 10; new 4; len; ret").limited(9, 9, heap), noPlace, api.Cert{Fuel: 2, Stack: 1})
		traps(t, coded("const 16; new 1024; len; ret").limited(9, 9, heap), noPlace, api.Cert{Fuel: 2, Stack: 1})
		traps(t, coded("const 5; new -1; len; ret").limited(9, 9, heap), noPlace, api.Cert{Fuel: 2, Stack: 1})
	}
	fails(t, coded("const 5; new 5; len; ret").limited(9, 9, 4), badFull)
	fails(t, coded("const 5; new 5; len; ret").limited(2, 9, 4), badFull)
	fails(t, coded("const 5; new 5; len; ret").limited(2, 9, 5), badFuel)
}

// P17.1: an error in a method that was called, behind stores and arrays, is the error of the call; nothing else is returned.
func TestErrorBelow(t *testing.T) {
	for text, e := range map[string]api.Errno{"pop; ret": badOp, "const 3; const 3; ret": badStack, "const 9; new 9": badFull, "jump 0": badFuel, "call 1": badOp, "call 2": badOp} {
		q := asked(nil, method("", "", "const 4; store 0; const 2; new 2; const 3; call 1; ret"), method("n", "", text))
		fails(t, q.limited(50, 3, 10), e)
	}
}
