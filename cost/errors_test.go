package cost_test

import (
	"slices"
	"strings"
	"testing"

	"capstan/api"
	"capstan/sample"
)

// fault is the code of a method that brings about an error, in the place of each self a call of the method itself.
type fault struct {
	text string
	e    api.Errno
}

// faults returns faults of all sorts.
func faults() []fault {
	return []fault{
		{"call 15; ret", badArg},
		{"trap; call 5; trap", badArg},
		{"self; ret", badCycle},
		{"trap; loop 2; self; again 1; trap", badCycle},
		{"", badOp},
		{"const 99; ret", badOp},
		{"201* trap", badOp},
		{"nop", badJump},
		{"jump 0; ret", badJump},
		{"loop 2; ret", badJump},
		{"const 9; ret", badType},
		{"get 0; trap", badType},
		{"const 0; zero 3; const 0; trap", badType},
		{"const 1; ret", badType},
		{"add; ret", badStack},
		{"ret", badStack},
		{"loop 100; loop 100; loop 100; nop; again 2; again 1; again 0; trap", badCost},
		{"const 0; new 1024; const 0; new 1; trap", badCost},
		{"trap; new 1024; new 1; trap", badCost},
	}
}

// in puts the fault into the method k of m, which is changed.
func (f fault) in(m api.Module, k int) {
	var code []api.Instr
	for line := range strings.SplitSeq(f.text, ";") {
		if strings.TrimSpace(line) == "self" {
			code = append(code, api.Instr{Op: api.OpCall, A: k})
		} else {
			code = append(code, sample.Code(line)...)
		}
	}
	m.Methods[k].Code = code
}

// sound returns a module of five methods without errors, the middle one of which calls others.
func sound() api.Module {
	return coded("const 0; ret", "const 0; new 3; len; ret", "call 0; call 4; add; ret", "loop 3; call 1; pop; again 0; const 0; ret", "const 0; dup; add; ret")
}

// P12.2: each error, in the first, in a middle and in the last method.
func TestErrors(t *testing.T) {
	compareError(t, sound(), 0)
	for _, f := range faults() {
		for k := range 5 {
			m := sound()
			f.in(m, k)
			compareError(t, m, f.e)
		}
	}
}

// order returns at which step of the checks an error arises.
func order(e api.Errno) int {
	switch e {
	case badArg:
		return 0
	case badCycle:
		return 1
	case badCost:
		return 3
	}
	return 2
}

// P12.2: of two errors in different methods the one is told that is checked ahead of the other; if both are of layer 10, or of layer 9, which is part of it, that of the first method.
func TestTwoErrors(t *testing.T) {
	for _, f := range faults() {
		for _, g := range faults() {
			for _, at := range [][2]int{{0, 1}, {0, 4}, {1, 3}, {2, 3}, {3, 4}} {
				m := sound()
				f.in(m, at[0])
				g.in(m, at[1])
				want := f.e
				if order(g.e) < order(f.e) {
					want = g.e
				}
				compareError(t, m, want)
			}
		}
	}
}

// P12.2: each error together with a certificate that does not fit, by each of its numbers, of a method ahead of it and of one behind.
func TestErrorsBesideCost(t *testing.T) {
	for _, f := range faults() {
		for k := range 5 {
			for other := range 5 {
				for n := range 3 {
					if other == k {
						continue
					}
					m := sound()
					f.in(m, k)
					lessen(&m.Methods[other], n, 1<<30)
					compareError(t, m, f.e)
				}
			}
		}
	}
}

// lessen has the method declare so much less of fuel, stack or heap.
func lessen(x *api.Method, n, by int) {
	*[]*int{&x.Fuel, &x.Stack, &x.Heap}[n] -= by
}

// P12.2: ErrCost alone, by each of the three numbers, in each place.
func TestCostAlone(t *testing.T) {
	certs, _ := certsOf(sound())
	for k := range certs {
		for n := range 3 {
			m := sample.Declaring(sound(), certs...)
			compareError(t, m, 0)
			lessen(&m.Methods[k], n, 1)
			compareError(t, m, badCost)
			m = sound()
			lessen(&m.Methods[k], n, 1<<30)
			compareError(t, m, badCost)
		}
	}
}

// P12.2: calls in a round of several methods, and calls of methods that do not exist, by what is not reached and beside all else.
func TestCallErrors(t *testing.T) {
	compareError(t, coded("call 1; ret", "call 2; ret", "call 0; ret"), badCycle)
	compareError(t, coded("call 1; ret", "const 0; ret; call 0; ret"), badCycle)
	compareError(t, coded("call 1; ret", "const 0; ret; call 2; ret"), badArg)
	for _, a := range []int{-1, -1 << 63, 5, 1<<63 - 1, 1 << 32} {
		for k := range 5 {
			m := sound()
			m.Methods[k].Code = slices.Insert(m.Methods[k].Code, 0, api.Instr{Op: api.OpCall, A: a})
			compareError(t, m, badArg)
		}
	}
	// What else is wrong with a call is an error of layer 9.
	m := sound()
	m.Methods[2].Code[0].B = 1
	compareError(t, m, badOp)
	m.Methods[4].Code = append(m.Methods[4].Code, m.Methods[2].Code[0], api.Instr{Op: api.OpCall, A: 2})
	compareError(t, m, badCycle)
}
