package machine_test

import (
	"math"
	"slices"
	"strings"
	"testing"

	"capstan/api"
	"capstan/sample"
)

// The numbers and limits are what the document says.
func TestNumbering(t *testing.T) {
	if !slices.Equal([]api.Errno{api.ErrArg, api.ErrFull, api.ErrOp, api.ErrStack, api.ErrFuel}, []api.Errno{badArg, badFull, badOp, badStack, badFuel}) {
		t.Errorf("errors")
	}
	if !slices.Equal([]int{api.TrNone, api.TrDiv, api.TrRange, api.TrPart, api.TrOwn}, []int{0, byZero, noPlace, beyond, own}) {
		t.Errorf("traps")
	}
	if !slices.Equal([]int{api.MaxPart, api.MaxLocals, api.MaxStack, api.MaxHeap, api.MaxFuel}, []int{mostPart, mostLocals, mostStack, mostHeap, mostFuel}) {
		t.Errorf("limits")
	}
}

// P17.1: the chapter's examples.
func TestExamples(t *testing.T) {
	gives(t, of(1, api.Instr{Op: api.OpDiv}, n(7), n(2)), n(3), api.Cert{Fuel: 4, Stack: 2})
	traps(t, of(1, api.Instr{Op: api.OpDiv}, n(7), n(0)), byZero, api.Cert{Fuel: 3, Stack: 2})
}

// edges are integers at which arithmetic may go wrong.
var edges = []int64{math.MinInt64, math.MinInt64 + 1, -1 << 53, -1<<32 - 1, -1 << 32, -mostPart - 1, -mostPart, -7, -3, -2, -1, 0, 1, 2, 3, 7, mostPart, mostPart + 1, 1 << 31, 3037000500, 1 << 32, 1<<53 + 1, math.MaxInt64 - 1, math.MaxInt64}

// P17.1: operations on integers: the first operand lies below the second one; results wrap around.
func TestIntegers(t *testing.T) {
	const least, most = math.MinInt64, math.MaxInt64
	for _, x := range []struct {
		op         uint8
		a, b, want int64
	}{
		{api.OpAdd, 2, 3, 5}, {api.OpAdd, most, 1, least}, {api.OpAdd, least, -1, most}, {api.OpAdd, least, least, 0}, {api.OpAdd, -5, 3, -2},
		{api.OpSub, 2, 3, -1}, {api.OpSub, 3, 2, 1}, {api.OpSub, least, 1, most}, {api.OpSub, most, -1, least}, {api.OpSub, 0, least, least},
		{api.OpMul, 6, -7, -42}, {api.OpMul, most, 2, -2}, {api.OpMul, least, -1, least}, {api.OpMul, 1 << 32, 1 << 32, 0}, {api.OpMul, most, most, 1}, {api.OpMul, 1<<53 + 1, 3, 3<<53 + 3},
		{api.OpDiv, 7, 2, 3}, {api.OpDiv, -7, 2, -3}, {api.OpDiv, 7, -2, -3}, {api.OpDiv, -7, -2, 3}, {api.OpDiv, 0, 5, 0}, {api.OpDiv, 2, 7, 0}, {api.OpDiv, least, -1, least}, {api.OpDiv, least, 1, least}, {api.OpDiv, most, -1, -most}, {api.OpDiv, 1, least, 0}, {api.OpDiv, 1<<53 + 1, 1, 1<<53 + 1},
		{api.OpRem, 7, 2, 1}, {api.OpRem, -7, 2, -1}, {api.OpRem, 7, -2, 1}, {api.OpRem, -7, -2, -1}, {api.OpRem, 0, 5, 0}, {api.OpRem, 2, 7, 2}, {api.OpRem, least, -1, 0}, {api.OpRem, 1, least, 1}, {api.OpRem, most, 1 << 32, 1<<32 - 1},
		{api.OpLess, 1, 2, 1}, {api.OpLess, 2, 2, 0}, {api.OpLess, 3, 2, 0}, {api.OpLess, -1, 0, 1}, {api.OpLess, least, most, 1}, {api.OpLess, most, least, 0}, {api.OpLess, 1 << 32, 1, 0},
		{api.OpSame, 2, 2, 1}, {api.OpSame, 2, 3, 0}, {api.OpSame, least, most, 0}, {api.OpSame, -1, -1, 1}, {api.OpSame, 1 << 32, 0, 0}, {api.OpSame, 1<<53 + 1, 1 << 53, 0},
	} {
		gives(t, of(1, api.Instr{Op: x.op}, n(x.a), n(x.b)), n(x.want), api.Cert{Fuel: 4, Stack: 2})
	}
}

// P17.1: division and remainder by 0, of whatever.
func TestByZero(t *testing.T) {
	for _, a := range edges {
		for _, op := range []uint8{api.OpDiv, api.OpRem} {
			traps(t, of(1, api.Instr{Op: op}, n(a), n(0)), byZero, api.Cert{Fuel: 3, Stack: 2})
		}
	}
}

// P17.1: all operations on two integers, over all edges.
func TestEdges(t *testing.T) {
	for _, a := range edges {
		for _, b := range edges {
			for op := api.OpAdd; op <= api.OpSame; op++ {
				compare(t, of(1, api.Instr{Op: op}, n(a), n(b)))
			}
			made := compare(t, of(2, api.Instr{Op: api.OpPair}, n(a), n(b)))
			if is := pair(p(a, b)); is && made.out.Result != p(a, b) || !is && made.out.Trap != beyond {
				t.Errorf("%v, of %d and %d", made, a, b)
			}
		}
	}
}

// P17.1: pairs with parts that are just within MaxPart, and just beyond.
func TestPairs(t *testing.T) {
	const most = mostPart
	for _, x := range []struct {
		op         uint8
		a, b, want api.Value
	}{
		{api.OpPair, n(3), n(-4), p(3, -4)}, {api.OpPair, n(most), n(-most), p(most, -most)}, {api.OpPair, n(-most), n(most), p(-most, most)},
		{api.OpPadd, p(1, 2), p(3, -4), p(4, -2)}, {api.OpPadd, p(most, 0), p(0, most), p(most, most)}, {api.OpPadd, p(-most, most), p(most, -most), p(0, 0)}, {api.OpPadd, p(most-1, 1-most), p(1, -1), p(most, -most)},
		{api.OpPmul, p(1, 2), p(3, -1), p(5, 5)}, {api.OpPmul, p(0, 1), p(0, 1), p(-1, 0)}, {api.OpPmul, p(1024, 0), p(0, 1024), p(0, most)}, {api.OpPmul, p(0, 1024), p(0, 1024), p(-most, 0)}, {api.OpPmul, p(most/2, most/2), p(1, -1), p(most, 0)}, {api.OpPmul, p(most, most), p(0, 0), p(0, 0)}, {api.OpPmul, p(most, -most), p(0, 1), p(most, most)},
	} {
		gives(t, of(2, api.Instr{Op: x.op}, x.a, x.b), x.want, api.Cert{Fuel: 4, Stack: 2})
	}
	for _, x := range []struct {
		op   uint8
		a, b api.Value
	}{
		{api.OpPair, n(most + 1), n(0)}, {api.OpPair, n(0), n(most + 1)}, {api.OpPair, n(-most - 1), n(0)}, {api.OpPair, n(0), n(-most - 1)}, {api.OpPair, n(1 << 32), n(0)}, {api.OpPair, n(0), n(math.MinInt64)}, {api.OpPair, n(math.MaxInt64), n(math.MaxInt64)},
		{api.OpPadd, p(most, 0), p(1, 0)}, {api.OpPadd, p(0, most), p(0, 1)}, {api.OpPadd, p(-1, 0), p(-most, 0)}, {api.OpPadd, p(0, -1), p(0, -most)}, {api.OpPadd, p(most, most), p(most, most)},
		{api.OpPmul, p(1024, 0), p(1025, 0)}, {api.OpPmul, p(most, most), p(1, 1)}, {api.OpPmul, p(most, most), p(1, -1)}, {api.OpPmul, p(most/2+1, most/2), p(1, -1)}, {api.OpPmul, p(most, most), p(most, most)}, {api.OpPmul, p(most, 0), p(-most, 0)},
	} {
		traps(t, of(2, api.Instr{Op: x.op}, x.a, x.b), beyond, api.Cert{Fuel: 3, Stack: 2})
	}
}

// P17.1: the parts of a pair, and its conjugate, up to MaxPart.
func TestParts(t *testing.T) {
	for _, a := range []int64{0, 1, -2, mostPart, -mostPart} {
		for _, b := range []int64{0, -1, 2, mostPart, -mostPart} {
			gives(t, of(1, api.Instr{Op: api.OpRe}, p(a, b)), n(a), api.Cert{Fuel: 3, Stack: 1})
			gives(t, of(1, api.Instr{Op: api.OpIm}, p(a, b)), n(b), api.Cert{Fuel: 3, Stack: 1})
			gives(t, of(2, api.Instr{Op: api.OpConj}, p(a, b)), p(a, -b), api.Cert{Fuel: 3, Stack: 1})
		}
	}
}

// P17.1: what is pushed, and what is on top of what.
func TestStack(t *testing.T) {
	for text, want := range map[string]api.Value{
		"const 7; ret":                                               n(7),
		"nop; const 7; nop; nop; ret":                                n(7),
		"const 1; const 2; const 3; ret":                             n(3),
		"const 1; const 2; pop; ret":                                 n(1),
		"const 8; const 3; swap; sub; ret":                           n(-5),
		"const 5; dup; mul; ret":                                     n(25),
		"const 9; const 4; dup; sub; pop; ret":                       n(9),
		"const 1; const 2; const 3; swap; pop; ret":                  n(3),
		"const 1; const 2; const 3; swap; pop; 2* pop; const 4; ret": n(4),
		"const 4; const 11; swap; ret":                               n(4),
		"const 11; const 4; swap; pop; ret":                          n(4),
		"const 3; const 11; dup; pop; pop; ret":                      n(3),
		"const 3; const 15; pop; ret":                                n(3),
		"const 15; const 3; const 14; swap; ret":                     n(3),
		"const 3; const 15; dup; pop; swap; ret":                     n(3),
		"const 16; ret":                                              n(math.MaxInt64),
	} {
		returns(t, coded(text), want)
	}
	gives(t, coded("const 3; const 15; dup; pop; swap; ret"), n(3), api.Cert{Fuel: 6, Stack: 3})
	returns(t, asked(nil, pairing(method("", "", "const 1; const 12; ret"))), p(3, -4))
	returns(t, asked(nil, pairing(method("", "", "const 11; const 12; swap; ret"))), p(1, 2))
}

// P17.1: B of an instruction does not matter.
func TestSecondOperand(t *testing.T) {
	q := coded("const 5; const 0; zero 4; trap; dup; add; ret")
	for at := range q.m.Methods[0].Code {
		q.m.Methods[0].Code[at].B = 7 - 3*at
	}
	gives(t, q, n(10), api.Cert{Fuel: 6, Stack: 2})
}

// P17.1: locals: first the arguments; the others are zero; each is set for itself, and counts as part of the frame.
func TestLocals(t *testing.T) {
	args := []api.Value{n(5), p(6, 7)}
	for text, want := range map[string]api.Value{
		"get 0; ret":                             n(5),
		"get 1; re; ret":                         n(6),
		"get 2; ret":                             n(0),
		"get 3; re; get 3; im; add; ret":         n(0),
		"get 4; len; ret":                        n(0),
		"const 9; set 2; get 0; get 2; sub; ret": n(-4),
		"const 9; set 0; get 0; get 2; sub; ret": n(9),
		"get 1; set 3; const 12; set 1; get 3; get 1; padd; im; ret":                 n(3),
		"const 2; new 2; set 4; get 4; dup; const 1; const 8; put; const 1; at; ret": n(8),
		"const 15; set 4; get 0; ret":                                                n(5),
		"const 1; const 2; set 0; ret":                                               n(1),
	} {
		returns(t, asked(args, method("np", "npr", text)), want)
	}
	gives(t, asked(args, method("np", "npr", "get 0; get 0; add; ret")), n(10), api.Cert{Fuel: 4, Stack: 7})
}

// P17.1: as many locals as there may be, all arguments and none.
func TestAllLocals(t *testing.T) {
	for k := range mostLocals {
		x := method("nnnnnnnnnnnnnnnn", "", with("get ?; ret", k))
		gives(t, asked(constantsBelow(16), x), n(int64(k)), api.Cert{Fuel: 2, Stack: 17})
		x.Args, x.Locals = nil, x.Args
		gives(t, asked(nil, x), n(0), api.Cert{Fuel: 2, Stack: 17})
	}
}

// P17.1: globals are those that are passed, not the initial ones; they are returned as they are behind the call.
func TestGlobals(t *testing.T) {
	returns(t, coded("load 0; ret"), n(10))
	returns(t, coded("load 1; im; ret"), n(-4))
	returns(t, asked(nil, pairing(method("", "", "load 1; ret"))), p(3, -4))
	leaves(t, coded("const 7; ret"), n(10), p(3, -4))
	leaves(t, coded("const 7; store 0; const 1; ret"), n(7), p(3, -4))
	leaves(t, coded("const 11; store 1; const 1; ret"), n(10), p(1, 2))
	leaves(t, coded("const 7; store 0; const 8; store 0; load 0; store 0; const 11; store 1; load 0; ret"), n(8), p(1, 2))
	returns(t, coded("const 7; store 0; load 0; load 0; mul; ret"), n(49))
	leaves(t, coded("loop 5; load 0; load 0; add; store 0; again 0; load 0; ret"), n(320), p(3, -4))
	leaves(t, coded("const 1; load 0; store 0; ret"), n(10), p(3, -4))
	q := coded("load 3; store 0; load 0; ret")
	q.m.Globals, q.globals = sample.Values("nnnn"), []api.Value{n(9), n(8), n(7), n(6)}
	leaves(t, q, n(6), n(8), n(7), n(6))
	q.m.Globals, q.globals, q.m.Methods[0] = nil, nil, method("", "", "const 4; ret")
	gives(t, q, n(4), api.Cert{Fuel: 2, Stack: 1})
}

// P17.1: of the module's own globals only the kinds matter.
func TestInitialGlobals(t *testing.T) {
	q := coded("load 0; ret")
	q.m.Globals = []api.Value{{Kind: 1, A: 3, B: 4}, {Kind: 2, A: mostPart + 1}}
	gives(t, q, n(10), api.Cert{Fuel: 2, Stack: 1})
}

// P17.1: arrays are numbered from 1 on, their words are 0 at first, and each is for itself.
func TestArrays(t *testing.T) {
	for text, want := range map[string]api.Value{
		"const 3; new 5; len; ret":                                      n(3),
		"const 5; new 5; len; ret":                                      n(5),
		"const 0; new 5; len; ret":                                      n(0),
		"const 0; new 0; len; ret":                                      n(0),
		"const 13; len; ret":                                            n(0),
		"const 3; new 9; pop; const 14; len; ret":                       n(3),
		"const 3; new 9; const 2; at; ret":                              n(0),
		"const 3; new 9; const 0; at; ret":                              n(0),
		"const 3; new 9; dup; const 2; const 8; put; const 2; at; ret":  n(8),
		"const 3; new 9; dup; const 2; const 8; put; const 1; at; ret":  n(0),
		"const 3; new 9; dup; const 0; const 16; put; const 0; at; ret": n(math.MaxInt64),
		"const 3; new 9; dup; const 0; const 7; put; dup; const 0; const 8; put; const 0; at; ret":                      n(8),
		"const 3; new 9; const 2; new 9; const 1; const 6; put; const 2; at; ret":                                       n(0),
		"const 3; new 9; const 2; new 9; const 1; const 6; put; const 1; at; ret":                                       n(0),
		"const 3; new 9; dup; const 2; const 5; put; const 2; new 9; dup; const 0; const 6; put; pop; const 2; at; ret": n(5),
		"const 1; new 9; pop; const 7; new 9; pop; const 14; len; ret":                                                  n(1),
		"const 6; new 9; dup; const 1; const 2; put; const 1; at; const 9; add; ret":                                    n(11),
	} {
		returns(t, coded(text), want)
	}
	gives(t, coded("const 3; new 5; pop; const 4; new 5; len; ret"), n(4), api.Cert{Fuel: 7, Stack: 1, Heap: 7})
	gives(t, coded("const 0; new 5; dup; len; ret"), n(0), api.Cert{Fuel: 5, Stack: 2})
	gives(t, coded("loop 300; const 0; new 5; pop; again 0; const 7; ret"), n(7), api.Cert{Fuel: 1203, Stack: 1})
}

// P17.1: every array has its number, and none but those that were made exists.
func TestArrayNumbers(t *testing.T) {
	for many := range 9 {
		for number := range int64(12) {
			q := pooled(strings.Repeat("const 0; new 3; pop; ", many)+"const 1; len; ret", n(3), ref(number))
			switch {
			case number == 0:
				returns(t, q, n(0))
			case number <= int64(many):
				returns(t, q, n(3))
			default:
				traps(t, q, noPlace, api.Cert{Fuel: 3*many + 2, Stack: 1, Heap: 3 * many})
			}
		}
	}
}

// P17.1: how many words an OpNew may be asked for, and whether they are left.
func TestNew(t *testing.T) {
	for _, most := range []int{math.MinInt, -1, 0, 1, 2, 7, mostHeap - 1, mostHeap, mostHeap + 1, 1 << 32, math.MaxInt} {
		for _, left := range []int{0, 1, 2, 7, mostHeap - 1, mostHeap} {
			for _, many := range []int64{math.MinInt64, -1 << 32, -mostHeap, -1, 0, 1, 2, 3, 6, 7, 8, mostHeap - 1, mostHeap, mostHeap + 1, 1 << 32, 1<<32 + 1, math.MaxInt64} {
				q := pooled(with("const 0; new ?; len; ret", most), n(many)).limited(9, 9, left)
				switch {
				case many < 0 || many > int64(most):
					traps(t, q, noPlace, api.Cert{Fuel: 2, Stack: 1})
				case many > int64(left):
					fails(t, q, badFull)
				default:
					gives(t, q, n(many), api.Cert{Fuel: 4, Stack: 1, Heap: int(many)})
				}
			}
		}
	}
}

// P17.1: just what is left, and one word more, behind other arrays.
func TestLeft(t *testing.T) {
	q := coded("const 5; new 9; pop; const 4; new 9; len; ret")
	gives(t, q.limited(9, 9, 9), n(4), api.Cert{Fuel: 7, Stack: 1, Heap: 9})
	fails(t, q.limited(9, 9, 8), badFull)
	fails(t, q.limited(9, 9, 4), badFull)
	gives(t, coded("loop 8; const 2; new 2; pop; again 0; const 0; new 0; len; ret").limited(99, 9, 16), n(0), api.Cert{Fuel: 37, Stack: 1, Heap: 16})
	fails(t, coded("loop 8; const 2; new 2; pop; again 0; const 1; new 1; len; ret").limited(99, 9, 16), badFull)
}

// P17.1: the words of arrays, just inside and just outside.
func TestIndexes(t *testing.T) {
	for _, long := range []int64{0, 1, 2, 9} {
		for _, at := range []int64{math.MinInt64, -1 << 32, -2, -1, 0, 1, 2, 8, 9, 10, 1 << 32, 1<<32 + 1, math.MaxInt64} {
			is := at >= 0 && at < long
			q := pooled("const 0; new 9; const 1; at; ret", n(long), n(at), n(6))
			if is {
				gives(t, q, n(0), api.Cert{Fuel: 5, Stack: 2, Heap: int(long)})
			} else {
				traps(t, q, noPlace, api.Cert{Fuel: 4, Stack: 2, Heap: int(long)})
			}
			q.m.Methods[0].Code = sample.Code("const 0; new 9; dup; const 1; const 2; put; const 1; at; ret")
			if is {
				gives(t, q, n(6), api.Cert{Fuel: 9, Stack: 4, Heap: int(long)})
			} else {
				traps(t, q, noPlace, api.Cert{Fuel: 6, Stack: 4, Heap: int(long)})
			}
		}
	}
}

// P17.1: arrays that do not exist have no index and no length; array 0 has no index, and the length 0.
func TestNoArray(t *testing.T) {
	for _, number := range []int64{0, 1, 2, 1 << 32, 1<<32 + 1, math.MaxInt64} {
		for _, at := range []int64{-1, 0, 1, math.MaxInt64} {
			q := of(1, api.Instr{Op: api.OpAt}, ref(number), n(at))
			traps(t, q, noPlace, api.Cert{Fuel: 3, Stack: 2})
			q = of(1, api.Instr{Op: api.OpPut}, ref(number), n(at), n(4))
			traps(t, q, noPlace, api.Cert{Fuel: 4, Stack: 3})
		}
		q := of(1, api.Instr{Op: api.OpLen}, ref(number))
		if number == 0 {
			gives(t, q, n(0), api.Cert{Fuel: 3, Stack: 1})
		} else {
			traps(t, q, noPlace, api.Cert{Fuel: 2, Stack: 1})
		}
	}
}

// P17.1: each call has a heap of its own.
func TestNewHeap(t *testing.T) {
	for range 3 {
		q := coded("const 9; new 9; dup; const 0; at; swap; const 0; const 5; put; ret").limited(99, 9, 9)
		gives(t, q, n(0), api.Cert{Fuel: 10, Stack: 4, Heap: 9})
		catches(t, coded("const 14; len; ret"), noPlace)
	}
}
