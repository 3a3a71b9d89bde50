package machine_test

import (
	"math"
	"testing"

	"capstan/api"
)

// P17.1: jumps lead farther on, back, and to themselves; the machine executes what no verifier accepts.
func TestJumps(t *testing.T) {
	gives(t, coded("jump 2; trap; const 4; ret"), n(4), api.Cert{Fuel: 3, Stack: 1})
	gives(t, coded("jump 1; const 4; ret"), n(4), api.Cert{Fuel: 3, Stack: 1})
	gives(t, coded("const 5; jump 4; const 6; nop; ret"), n(5), api.Cert{Fuel: 3, Stack: 1})
	gives(t, coded("jump 3; const 8; ret; jump 1"), n(8), api.Cert{Fuel: 4, Stack: 1})
	gives(t, coded("const 3; dup; zero 6; const 1; sub; jump 1; ret"), n(0), api.Cert{Fuel: 19, Stack: 2})
	fails(t, coded("jump 0"), badFuel)
	fails(t, coded("nop; jump 0").limited(7, 0, 0), badFuel)
}

// P17.1: an OpZero leads to its target from 0 alone.
func TestZero(t *testing.T) {
	for _, x := range []int64{math.MinInt64, -1 << 32, -2, -1, 0, 1, 2, 256, 1 << 32, math.MaxInt64} {
		want := n(7)
		if x == 0 {
			want = n(8)
		}
		gives(t, pooled("const 0; zero 4; const 1; ret; const 2; ret", n(x), n(7), n(8)), want, api.Cert{Fuel: 4, Stack: 1})
	}
	fails(t, coded("const 0; zero 0").limited(200, 1, 0), badFuel)
	gives(t, coded("const 1; zero 9; const 4; ret"), n(4), api.Cert{Fuel: 4, Stack: 1})
}

// P17.1: what stands in a loop is executed as often as it has turns, in each loop around it.
func TestLoops(t *testing.T) {
	for turns := 1; turns < 7; turns++ {
		for inner := 1; inner < 5; inner++ {
			text := with("loop ?; ", turns) + with("loop ?; ", inner) + "get 0; const 1; add; set 0; again 1; nop; again 0; get 0; ret"
			gives(t, asked(nil, method("", "n", text)), n(int64(turns*inner)), api.Cert{Fuel: 1 + turns*(1+5*inner+2) + 2, Stack: 3})
		}
	}
	gives(t, coded("loop 1; nop; again 0; const 2; ret"), n(2), api.Cert{Fuel: 5, Stack: 1})
	gives(t, coded("loop 3; again 0; const 2; ret"), n(2), api.Cert{Fuel: 6, Stack: 1})
	gives(t, coded("const 0; loop 9; const 2; add; again 1; ret"), n(18), api.Cert{Fuel: 30, Stack: 2})
}

// P17.1: more turns than an accepted loop may have.
func TestManyTurns(t *testing.T) {
	for _, turns := range []int{100, 101, 255, 256, 257, 65536, 65537} {
		gives(t, coded(with("loop ?; again 0; const 2; ret", turns)), n(2), api.Cert{Fuel: turns + 3, Stack: 1})
	}
	for _, turns := range []int{mostFuel, 1 << 32, 1<<32 + 1, math.MaxInt} {
		fails(t, coded(with("loop ?; again 0; const 2; ret", turns)), badFuel)
	}
}

// P17.1: an OpLoop sets the turns whatever was left; loops need not be nested, nor closed, nor closed once.
func TestLoopsAnyhow(t *testing.T) {
	for text, want := range map[string]int64{
		// Left by a jump, and begun anew: ahead of its last turn, and ahead of its first one.
		"const 0; jump 2; loop 4; const 1; add; dup; const 2; less; zero 10; jump 2; again 2; ret": 5,
		"const 0; loop 2; loop 5; const 1; add; jump 6; again 1; ret":                              2,
		// Two OpAgains of one OpLoop.
		"const 0; loop 3; const 1; add; dup; const 1; same; zero 9; again 1; const 4; add; again 1; ret": 11,
		// The OpAgain ahead of its OpLoop.
		"const 0; jump 4; again 4; ret; loop 3; const 1; add; jump 2": 3,
		// Never closed, and closed where it is not reached.
		"loop 7; const 9; ret":          9,
		"loop 7; const 9; ret; again 0": 9,
	} {
		returns(t, coded(text), n(want))
	}
	// Across one another: the first of two has no turns left when the second one leads back.
	fails(t, coded("const 0; loop 3; loop 2; const 1; add; again 1; const 7; add; again 2; ret"), badOp)
}

// P17.1: turns belong to the frame: those of a method that is called are others, and gone when it is called again.
func TestLoopsOfFrames(t *testing.T) {
	inner := method("n", "n", "loop 4; get 1; const 1; add; set 1; again 0; get 0; get 1; mul; ret")
	gives(t, asked(nil, method("", "n", "loop 3; get 0; const 2; call 1; add; set 0; again 0; get 0; ret"), inner), n(24), api.Cert{Fuel: 1 + 3*(6+25) + 2, Stack: 6})
	fails(t, asked(nil, method("", "", "loop 3; call 1; pop; again 0; const 0; ret"), method("", "", "again 0; const 0; ret")), badOp)
	fails(t, asked(nil, method("", "", "call 1; pop; again 0; const 0; ret"), method("", "", "loop 5; const 0; ret")), badOp)
	// Two calls in each frame but the last ones, which return 1.
	twice := method("n", "n", "get 0; zero 12; loop 2; get 0; const 1; sub; call 0; get 1; add; set 1; again 2; jump 14; const 1; ret; get 1; ret")
	for x := range int64(8) {
		returns(t, asked([]api.Value{n(x)}, twice), n(1<<x))
	}
}

// P17.1: arguments are popped, the last one first; the result is pushed; what stands below is as it was.
func TestCalls(t *testing.T) {
	minus := method("nn", "", "get 0; get 1; sub; ret")
	gives(t, asked(nil, method("", "", "const 7; const 9; const 4; call 1; mul; ret"), minus), n(35), api.Cert{Fuel: 10, Stack: 5})
	mixed := method("npnr", "", "get 3; len; get 2; mul; get 1; im; add; get 0; sub; ret")
	returns(t, asked(nil, method("", "", "const 6; const 1; const 12; const 5; const 8; new 9; call 1; ret"), mixed), n(8*5-4-1))
	returns(t, asked(nil, method("", "", "const 6; const 1; const 12; const 5; const 8; new 9; call 1; pop; ret"), mixed), n(6))
	returns(t, asked(nil, pairing(method("", "", "const 1; const 2; call 1; ret")), pairing(method("nn", "", "get 1; get 0; pair; ret"))), p(2, 1))
	gives(t, asked(nil, method("", "", "call 1; call 1; add; ret"), method("", "", "call 2; ret"), method("", "", "const 4; ret")), n(8), api.Cert{Fuel: 12, Stack: 2})
}

// P17.1: each call has a frame of its own; the frame of the caller stays as it was.
func TestFrames(t *testing.T) {
	count := method("n", "np", "get 1; const 1; add; set 1; get 0; const 9; set 0; get 1; add; ret")
	gives(t, asked([]api.Value{n(6)}, method("n", "n", "get 0; call 1; get 0; call 1; add; get 1; add; get 0; add; ret"), count), n(7+7+0+6), api.Cert{Fuel: 30, Stack: 8})
	factorial := method("n", "", "get 0; zero 9; get 0; get 0; const 1; sub; call 0; mul; ret; const 1; ret")
	for x, want := range []int64{1, 1, 2, 6, 24, 120, 720} {
		returns(t, asked([]api.Value{n(int64(x))}, factorial), n(want))
	}
}

// P17.1: arrays and globals are those of the whole call.
func TestShared(t *testing.T) {
	fill := method("rn", "", "get 0; const 1; get 1; put; const 2; new 9; pop; load 0; get 1; add; store 0; get 1; ret")
	q := asked(nil, method("", "", "const 3; new 9; dup; const 8; call 1; pop; const 1; at; const 5; new 9; pop; load 0; add; ret"), fill)
	returns(t, q, n(8+18))
	leaves(t, q, n(18), p(3, -4))
	gives(t, asked(nil, method("", "", "const 3; new 9; call 1; const 15; pop; ret"), method("r", "", "get 0; len; const 4; new 4; pop; ret")), n(3), api.Cert{Fuel: 12, Stack: 3, Heap: 7})
	returns(t, asked(nil, method("", "", "call 1; const 14; len; add; ret"), method("", "", "const 5; new 9; len; ret")), n(10))
}

// P17.1: a method returns what is on top, and the rest of its stack is gone.
func TestRest(t *testing.T) {
	gives(t, coded("const 1; const 11; const 14; const 2; ret"), n(2), api.Cert{Fuel: 5, Stack: 4})
	gives(t, asked(nil, method("", "", "const 9; call 1; sub; ret"), method("", "rr", "const 1; const 11; const 14; const 2; ret")), n(7), api.Cert{Fuel: 9, Stack: 7})
	returns(t, asked(nil, pairing(method("", "", "const 1; const 12; ret"))), p(3, -4))
}

// counting calls itself as often as the first global tells, with frames that are empty then.
const counting = "load 0; zero 8; load 0; const 1; sub; store 0; call 0; ret; load 0; ret"

// P17.1: an OpCall where there are MaxStack frames, and where there are more.
func TestManyFrames(t *testing.T) {
	for _, calls := range []int64{0, 1, 2, 254, 255, 256} {
		q := coded(counting)
		q.globals[0] = n(calls)
		want := answer{[]api.Value{n(0), p(3, -4)}, api.Outcome{Result: n(0)}, api.Cert{Fuel: 8*int(calls) + 4, Stack: 2}, 0}
		if calls == 0 {
			want.used.Stack = 1
		}
		if got := compare(t, q); !got.same(want) {
			t.Errorf("%v, of %d calls", got, calls)
		}
	}
	for _, calls := range []int64{257, 258, 1000} {
		q := coded(counting)
		q.globals[0] = n(calls)
		fails(t, q, badOp)
	}
	fails(t, coded("call 0"), badOp)
	fails(t, coded("call 0").limited(257, 0, 0), badOp)
	fails(t, coded("call 0").limited(256, 0, 0), badFuel)
	fails(t, asked(nil, method("", "", "call 1"), method("", "", "call 0")).limited(257, 0, 0), badOp)
	// With a local, the frames are too great ahead of that.
	fails(t, asked(nil, method("", "n", "call 0")), badStack)
	// Frames that have ended are no more.
	gives(t, asked(nil, method("", "", "loop 1000; call 1; pop; again 0; const 3; ret"), method("", "", "const 1; ret")), n(3), api.Cert{Fuel: 5003, Stack: 1})
}

// P17.1: the trap of an OpTrap is its operand more than TrOwn, whatever operand; where that is no trap, the next instruction follows.
func TestTrap(t *testing.T) {
	for _, a := range []int{math.MinInt, -1 << 32, -257, -256, -255, -32, -18, -17, -15, -14, -13, -12, -2, -1, 0, 1, 16, 254, 255, 256, 1 << 32, 1<<32 - 16} {
		traps(t, coded(with("const 3; new 4; trap ?; const 5; ret", a)), 16+a, api.Cert{Fuel: 3, Stack: 1, Heap: 3})
	}
	gives(t, coded("const 3; new 4; trap -16; const 5; ret"), n(5), api.Cert{Fuel: 5, Stack: 2, Heap: 3})
	gives(t, coded("loop 3; trap -16; again 0; const 5; ret"), n(5), api.Cert{Fuel: 9, Stack: 1})
	leaves(t, coded("const 4; store 0; trap -16; const 5; ret"), n(4), p(3, -4))
	fails(t, coded("trap -16"), badOp)
	fails(t, coded("trap -16; ret"), badOp)
}

// P17.1: a trap in a method that was called ends the whole call.
func TestTrapBelow(t *testing.T) {
	for text, number := range map[string]int{"trap 4": 20, "get 0; const 0; div; ret": byZero, "get 0; const 0; rem; ret": byZero, "get 0; new 6; pop; const 1; ret": noPlace, "get 0; const 16; pair; ret": beyond, "const 15; len; ret": noPlace, "const 14; get 0; at; ret": noPlace} {
		catches(t, asked(nil, method("", "", "const 7; call 1; pop; const 3; ret"), method("n", "", text)), number)
		catches(t, asked(nil, method("", "", "loop 3; const 7; call 1; pop; again 0; const 3; ret"), method("n", "", "get 0; call 2; ret"), method("n", "", text)), number)
	}
	traps(t, asked(nil, method("", "p", "const 1; const 7; call 1; pop; const 3; ret"), method("n", "", "const 4; new 4; get 0; trap 1")), 17, api.Cert{Fuel: 7, Stack: 5, Heap: 4})
}

// P17.1: what is used: fuel by each instruction that is executed, the stack ahead of one, locals and frames included, and the heap in all.
func TestUsed(t *testing.T) {
	gives(t, coded("5* nop; const 1; ret"), n(1), api.Cert{Fuel: 7, Stack: 1})
	gives(t, asked(nil, method("", "nnn", "const 1; ret")), n(1), api.Cert{Fuel: 2, Stack: 4})
	traps(t, asked(nil, method("", "nnn", "trap")), 16, api.Cert{Fuel: 1, Stack: 3})
	traps(t, coded("trap"), 16, api.Cert{Fuel: 1})
	gives(t, coded("5* const 1; 5* pop; const 2; ret"), n(2), api.Cert{Fuel: 12, Stack: 5})
	gives(t, coded("loop 7; const 3; new 3; pop; again 0; const 2; ret"), n(2), api.Cert{Fuel: 31, Stack: 1, Heap: 21})
	// A frame counts as soon as there is one: its locals with the rest of the caller's frame, without the arguments there.
	gives(t, asked(nil, method("", "n", "const 1; const 2; const 3; call 1; ret"), method("nn", "ppp", "const 4; ret")), n(4), api.Cert{Fuel: 7, Stack: 8})
	traps(t, asked(nil, method("", "n", "const 1; const 2; const 3; call 1; ret"), method("nn", "ppp", "trap")), 16, api.Cert{Fuel: 5, Stack: 7})
	// A method that is called has gone when the next one begins.
	gives(t, asked(nil, method("", "", "call 1; call 1; call 1; pop; pop; ret"), method("", "nnnn", "const 4; ret")), n(4), api.Cert{Fuel: 12, Stack: 7})
}

// P17.1: as much as may be of each.
func TestGreatest(t *testing.T) {
	long := "loop 100; loop 100; loop 10; 9* nop; again 2; again 1; again 0; loop 100; loop 10; 27* nop; again 16; again 15; loop 100; again 46; "
	traps(t, coded(long+"72* nop; trap"), 16, api.Cert{Fuel: 1048576})
	fails(t, coded(long+"73* nop; trap"), badFuel)
	gives(t, coded("256* const 1; ret"), n(1), api.Cert{Fuel: 257, Stack: 256})
	gives(t, coded("256* const 1; 255* add; ret"), n(256), api.Cert{Fuel: 512, Stack: 256})
	gives(t, pooled("const 0; new 1024; len; ret", n(1024)), n(1024), api.Cert{Fuel: 4, Stack: 1, Heap: 1024})
	deep := method("n", "", "get 0; zero 7; get 0; const 1; sub; call 0; ret; get 0; ret")
	gives(t, asked([]api.Value{n(253)}, deep), n(0), api.Cert{Fuel: 253*7 + 4, Stack: 255})
	gives(t, asked([]api.Value{n(254)}, deep), n(0), api.Cert{Fuel: 254*7 + 4, Stack: 256})
	fails(t, asked([]api.Value{n(255)}, deep), badStack)
}
