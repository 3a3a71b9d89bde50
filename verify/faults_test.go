package verify_test

import (
	"slices"
	"strings"
	"testing"

	"capstan/api"
	"capstan/sample"
)

// fault is a change of a module, at a method that is not called, by which a check finds an error.
type fault struct {
	name  string
	check int
	e     api.Errno
	in    func(m *api.Module, k int)
}

// coded returns the fault of a method with that code, without arguments, which declares as much as it may. A call of the method itself is written as self.
func coded(check int, e api.Errno, text string) fault {
	return fault{text, check, e, func(m *api.Module, k int) {
		x := plain(strings.ReplaceAll(text, "self", "call 99"))
		for at, i := range x.Code {
			if i.A == 99 {
				x.Code[at].A = k
			}
		}
		m.Methods[k] = x
	}}
}

// readsOf returns the fault of a method with that code that is declared to change nothing.
func readsOf(text string) fault {
	return fault{"reads: " + text, 6, badPure, func(m *api.Module, k int) { m.Methods[k] = reading(plain(text)) }}
}

// less returns the fault of a method that declares one less of something than it takes.
func less(name string, number func(x *api.Method) *int) fault {
	return fault{"less " + name, 5, badCost, func(m *api.Module, k int) {
		x := plain("const 0; new 9; len; ret")
		x.Fuel, x.Stack, x.Heap = 4, 1, 9
		*number(&x)--
		m.Methods[k] = x
	}}
}

// migrates returns the fault of a migrating method with these arguments, an array among them.
func migrates(args string) fault {
	return fault{"migrates " + args, 2, badMethod, func(m *api.Module, k int) {
		m.Methods[k] = method(args, "", "const 0; ret")
		m.Migrate = k
	}}
}

// ofWhole returns faults that check 1 finds beside the methods.
func ofWhole() []fault {
	return []fault{
		{"globals", 1, badModule, func(m *api.Module, k int) { m.Globals = append(m.Globals, sample.Values("npn")...) }},
		{"methods", 1, badModule, func(m *api.Module, k int) {
			m.Methods = append(m.Methods, slices.Repeat([]api.Method{plain("trap")}, 12)...)
		}},
		{"array as global", 1, badPool, func(m *api.Module, k int) { m.Globals = append(m.Globals, sample.Values("r")...) }},
		{"array as constant", 1, badPool, func(m *api.Module, k int) { m.Pool = append(m.Pool, sample.Values("r")...) }},
		{"too long", 1, badLong, func(m *api.Module, k int) {
			for len(m.Methods) < 16 {
				m.Methods = append(m.Methods, plain("199* nop; trap"))
			}
		}},
	}
}

// ofMethod returns faults of a method that check 1 finds.
func ofMethod() []fault {
	return []fault{
		{"result", 1, badMethod, func(m *api.Module, k int) { m.Methods[k].Result = api.KdRef }},
		{"kind", 1, badMethod, func(m *api.Module, k int) { m.Methods[k].Locals = sample.Kinds("npo") }},
		{"fuel", 1, badMethod, func(m *api.Module, k int) { m.Methods[k].Fuel = api.MaxFuel + 1 }},
		{"stack", 1, badMethod, func(m *api.Module, k int) { m.Methods[k].Stack = api.MaxStack + 1 }},
		{"heap", 1, badMethod, func(m *api.Module, k int) { m.Methods[k].Heap = -1 }},
		coded(1, badOp, ""),
		coded(1, badOp, "201* trap"),
		coded(1, badOp, "trap; loop 101; trap"),
		coded(1, badOp, "const 32; ret"),
		coded(1, badOp, "trap; call 16; trap"),
	}
}

// ofTypes returns faults that check 3 finds.
func ofTypes() []fault {
	return []fault{
		coded(3, badJump, "nop"),
		coded(3, badJump, "jump 0; ret"),
		coded(3, badJump, "trap; loop 2; trap"),
		coded(3, badJump, "loop 2; again 0; again 0; trap"),
		coded(3, badJump, "loop 1; loop 1; loop 1; loop 1; loop 1; again 4; again 3; again 2; again 1; again 0; trap"),
		coded(3, badType, "const 9; ret"),
		coded(3, badType, "trap; get 0; trap"),
		coded(3, badType, "load 2; trap"),
		coded(3, badType, "trap; call 15; trap"),
		coded(3, badType, "const 1; ret"),
		coded(3, badType, "const 0; zero 3; const 0; trap"),
		coded(3, badStack, "add; ret"),
		coded(3, badStack, "ret"),
		coded(3, badStack, "const 0; dup; pop; pop; pop; trap"),
	}
}

// ofRest returns faults that check 2 finds, and those that are found by the checks from the fourth on.
func ofRest() []fault {
	return []fault{
		migrates("r"), migrates("rnn"), migrates("nrp"), migrates("pnnr"), migrates("rrrr"),
		coded(4, badCycle, "self; ret"),
		coded(4, badCycle, "trap; loop 2; self; again 1; trap"),
		coded(5, badCost, "loop 100; loop 100; loop 100; nop; again 2; again 1; again 0; trap"),
		coded(5, badCost, "const 0; new 1024; const 0; new 1; trap"),
		coded(5, badCost, "trap; new 1024; new 1; trap"),
		less("fuel", func(x *api.Method) *int { return &x.Fuel }),
		less("stack", func(x *api.Method) *int { return &x.Stack }),
		less("heap", func(x *api.Method) *int { return &x.Heap }),
		readsOf("const 0; store 0; const 0; ret"),
		readsOf("trap; store 1; trap"),
		readsOf("const 0; new 1; call 3; ret"),
		readsOf("trap; call 3; trap"),
	}
}

// faults returns faults of all sorts.
func faults() []fault { return slices.Concat(ofWhole(), ofMethod(), ofTypes(), ofRest()) }

// blamed returns the method that is blamed for the fault in the method k.
func (f fault) blamed(k int) int {
	if f.check == 3 {
		return k
	}
	return -1
}

// places are the methods of sound that are not called: the first, the middle one and the last.
func places() []int { return []int{0, 2, 4} }

// P14.1, P14.3: each check finds an error alone, in the first, in a middle and in the last method.
func TestEachCheck(t *testing.T) {
	var checks [7]int
	for _, f := range faults() {
		for _, k := range places() {
			m := changed(sound(), func(m *api.Module) { f.in(m, k) })
			compareError(t, m, f.check, f.e, f.blamed(k))
		}
		checks[f.check]++
	}
	if slices.Contains(checks[1:], 0) {
		t.Errorf("%v errors by the checks", checks)
	}
}

// rank tells how early the fault in the method k is found: by its check, and among those of one check by its place.
func (f fault) rank(k int) int {
	among := 0
	switch {
	case f.check == 3:
		among = k
	case f.check == 1 && (f.e == badMethod || f.e == badOp):
		among = 2 + k
	case f.e == badPool:
		among = 1
	case f.e == badLong:
		among = 99
	}
	return 100*f.check + among
}

// P14.1, P14.3: of two faults in different methods the one is told that is checked ahead of the other; of two that check 3 finds, that of the first method.
func TestTwoFaults(t *testing.T) {
	for _, f := range faults() {
		for _, g := range faults() {
			for _, at := range [][2]int{{0, 2}, {0, 4}, {2, 4}} {
				m := changed(sound(), func(m *api.Module) {
					f.in(m, at[0])
					g.in(m, at[1])
				})
				first, k := f, at[0]
				if g.rank(at[1]) < f.rank(at[0]) {
					first, k = g, at[1]
				}
				compareError(t, m, first.check, first.e, first.blamed(k))
			}
		}
	}
}

// P14.1, P14.3: faults in each of the five methods at once, in each order of a few.
func TestManyFaults(t *testing.T) {
	l := []fault{coded(1, badOp, ""), migrates("r"), coded(3, badJump, "nop"), coded(3, badStack, "ret"), coded(4, badCycle, "trap; self; trap"), coded(5, badCost, "trap; new 1024; new 1; trap"), readsOf("trap; store 0; trap")}
	for seed := range 500 {
		d := sample.Dice(seed)
		m, first, at := sound(), l[6], 0
		for k := range 5 {
			f := sample.Pick(&d, l)
			f.in(&m, k)
			if k == 0 || f.rank(k) < first.rank(at) {
				first, at = f, k
			}
		}
		compareError(t, m, first.check, first.e, first.blamed(at))
	}
}

// P14.1, P14.3: a method with two faults, of its code and of its header.
func TestFaultsOfOneMethod(t *testing.T) {
	for _, f := range faults() {
		for _, k := range places() {
			m := changed(sound(), func(m *api.Module) { f.in(m, k) })
			bad := changed(m, func(m *api.Module) { m.Methods[k].Result = 0 })
			if f.check == 1 {
				compare(t, bad)
				continue
			}
			compareError(t, bad, 1, badMethod, -1)
			array := changed(m, func(m *api.Module) {
				m.Methods[k].Args = sample.Kinds("nr")
				m.Migrate = k
			})
			compareError(t, array, 2, badMethod, -1)
			poor := changed(m, func(m *api.Module) { m.Methods[k].Fuel = 0 })
			if f.check < 5 {
				compareError(t, poor, f.check, f.e, f.blamed(k))
			} else {
				compareError(t, poor, 5, badCost, -1)
			}
		}
	}
}

// P14.1, P14.3: a method that is called and has a fault is blamed itself, and not who calls it.
func TestFaultsOfCalled(t *testing.T) {
	for _, f := range ofTypes() {
		m := changed(sound(), func(m *api.Module) { f.in(m, 1) })
		compareError(t, m, 3, f.e, 1)
		// Who calls it with an argument that it does not take any more comes behind it.
		m = changed(sound(), func(m *api.Module) { f.in(m, 3) })
		compareError(t, m, 3, f.e, 3)
	}
	// The fault is of the caller, where it gives too few arguments, or others than those that are taken.
	for _, args := range []string{"rn", "nr", "n", "p"} {
		m := changed(sound(), func(m *api.Module) {
			m.Methods[3] = method(args, "", "const 0; ret")
		})
		want := badType
		if len(args) > 1 {
			want = badStack
		}
		compareError(t, m, 3, want, 4)
	}
}

// P14.1, P14.3: calls of methods that don't exist are told by check 3, whoever calls in a round besides.
func TestLacking(t *testing.T) {
	for k := range 5 {
		for _, a := range []int{5, 6, 15} {
			m := changed(sound(), func(m *api.Module) {
				x := &m.Methods[k]
				x.Code = append(x.Code, api.Instr{Op: api.OpCall, A: a}, api.Instr{Op: api.OpCall, A: k}, api.Instr{Op: api.OpRet})
			})
			compareError(t, m, 3, badType, k)
		}
		for _, a := range []int{-1, 16, 1 << 32, -1 << 63, 1<<63 - 1} {
			m := changed(sound(), func(m *api.Module) {
				x := &m.Methods[k]
				x.Code = slices.Insert(x.Code, len(x.Code)-1, api.Instr{Op: api.OpCall, A: a})
			})
			compareError(t, m, 1, badOp, -1)
		}
	}
}

// P14.1: rounds of calls through several methods, by what is not reached too.
func TestRounds(t *testing.T) {
	calling := func(to ...string) api.Module {
		m := with()
		for _, k := range to {
			m.Methods = append(m.Methods, plain("trap; call "+k+"; trap"))
		}
		return m
	}
	compareError(t, calling("0"), 4, badCycle, -1)
	compareError(t, calling("1", "0"), 4, badCycle, -1)
	compareError(t, calling("1", "2", "3", "1"), 4, badCycle, -1)
	compareError(t, calling("1", "2", "3", "4"), 3, badType, 3)
	m := calling("1", "2", "3", "1")
	m.Methods[3] = plain("trap")
	compareAccepted(t, m, api.Cert{Fuel: 10}, api.Cert{Fuel: 7}, api.Cert{Fuel: 4}, api.Cert{Fuel: 1})
}
