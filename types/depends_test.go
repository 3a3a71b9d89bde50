package types_test

import (
	"slices"
	"testing"

	"capstan/api"
	"capstan/flow"
	"capstan/op"
	"capstan/sample"
	"capstan/types"
)

// calls tells whether l calls that method.
func calls(l []api.Instr, k int) bool {
	return slices.Contains(l, api.Instr{Op: api.OpCall, A: k})
}

// others returns modules that differ from m in what the rows of its method 0 do not depend on.
func others(m api.Module) []api.Module {
	var l []api.Module
	change := func(change func(m *api.Module)) {
		other := sample.Twin(m)
		change(&other)
		l = append(l, other)
	}
	change(func(m *api.Module) {
		for _, values := range [][]api.Value{m.Globals, m.Pool} {
			for n := range values {
				values[n].A, values[n].B = 1<<62-int64(n), -1<<62
			}
		}
	})
	for _, migrate := range []int{-2, 0, 1, 2, 3, 4, 5, 16, 255, 1 << 40} {
		change(func(m *api.Module) { m.Migrate = migrate })
	}
	change(func(m *api.Module) {
		x := &m.Methods[0]
		x.Reads, x.Fuel, x.Stack, x.Heap = !x.Reads, -1, 1<<40, 1025
	})
	for _, code := range [][]api.Instr{nil, sample.Code("trap"), sample.Code("again 0; add"), sample.Code("get 15; call 15; ret"), slices.Repeat(sample.Code("ret"), 300)} {
		change(func(m *api.Module) {
			for k := range m.Methods[1:] {
				x := &m.Methods[k+1]
				x.Code, x.Locals, x.Reads, x.Fuel, x.Stack, x.Heap = code, kinds("xxo"), !x.Reads, 1<<20+1, -1, 7
			}
		})
	}
	// The method's kinds are those of its arguments and other locals together; only who calls it tells them apart.
	if !calls(m.Methods[0].Code, 0) {
		for n := range 6 {
			change(func(m *api.Module) {
				x := &m.Methods[0]
				all := slices.Concat(x.Args, x.Locals)
				x.Args, x.Locals = all[:n:n], all[n:]
			})
		}
	}
	return l
}

// P10.4: with other values of the same kinds, other code and other locals of the other methods, other declarations, and another migrating method, the rows are the same, and so is the error.
func TestDepends(t *testing.T) {
	holdEqual := func(l []api.Instr) {
		m := with(l)
		rows, e := types.Rows(m, 0)
		for n, other := range others(m) {
			got, found := types.Rows(other, 0)
			if found != e || types.Check(other, 0) != e || !slices.EqualFunc(got, rows, equalRow) {
				t.Fatalf("%d: %v %d, not %v %d, of %v", n, got, found, rows, e, l)
			}
		}
	}
	for seed := range seeds / 4 {
		l := grown(seed)
		holdEqual(l)
		holdEqual(changed(seed, l))
	}
	for _, l := range slices.Concat(badCodes()[badOp], badCodes()[badJump]) {
		holdEqual(l)
	}
	for text := range stacks {
		for _, x := range allSuits() {
			holdEqual(around(pushes(text), sample.Code(x.text)[0]))
		}
	}
}

// P10.4: what the rows do depend on: the kinds of constants, locals, globals and arguments, and results.
func TestDependsOn(t *testing.T) {
	for _, x := range []struct {
		text   string
		change func(m *api.Module)
	}{
		{"const 0; trap", func(m *api.Module) { m.Pool[0].Kind = api.KdPair }},
		{"load 0; trap", func(m *api.Module) { m.Globals[0].Kind = api.KdPair }},
		{"get 0; trap", func(m *api.Module) { m.Methods[0].Args[0] = api.KdPair }},
		{"get 3; trap", func(m *api.Module) { m.Methods[0].Locals[1] = api.KdPair }},
		{"call 2; trap", func(m *api.Module) { m.Methods[2].Result = api.KdPair }},
		{"get 0; get 1; call 0; trap", func(m *api.Module) { m.Methods[0].Result = api.KdPair }},
		{"get 1; call 3; trap", func(m *api.Module) { m.Methods[3].Args[0] = api.KdPair }},
		{"get 1; call 3; trap", func(m *api.Module) { m.Methods[3].Args = kinds("rr") }},
		{"get 1; call 3; trap", func(m *api.Module) { m.Methods[3].Args = nil }},
		{"get 0; ret", func(m *api.Module) { m.Methods[0].Result = api.KdPair }},
		{"get 0; set 3; trap", func(m *api.Module) { m.Methods[0].Locals[1] = api.KdRef }},
		{"get 0; store 0; trap", func(m *api.Module) { m.Globals[0].Kind = api.KdRef }},
	} {
		m := with(sample.Code(x.text))
		rows, e := types.Rows(m, 0)
		x.change(&m)
		other, found := types.Rows(m, 0)
		if e != 0 || found == 0 && slices.EqualFunc(rows, other, equalRow) {
			t.Errorf("%v %d, and then %v %d, of %s", rows, e, other, found, x.text)
		}
		compare(t, m, 0)
	}
}

// candidates returns valid instructions for code of n, with operands that exist in with and with others that lead somewhere.
func candidates(n int) []api.Instr {
	var l []api.Instr
	for opcode := range api.OpCount {
		least, most := op.Bounds(opcode)
		for _, a := range []int{least, 2, n / 2, n - 1} {
			if i := (api.Instr{Op: opcode, A: a}); a <= most && op.May(i) {
				l = append(l, i)
			}
		}
	}
	return l
}

// P10.5: an instruction that is not reached, replaced by any other one with which the code is still well-formed and whose operand exists, changes no row.
func TestReplaced(t *testing.T) {
	replaced := 0
	for seed := range seeds / 4 {
		l := grown(seed)
		m := with(l)
		rows, e := types.Rows(m, 0)
		if e != 0 {
			t.Fatalf("%d, of %v", e, l)
		}
		for at, r := range rows {
			if r.Reached {
				continue
			}
			for _, i := range candidates(len(l)) {
				m.Methods[0].Code = slices.Clone(l)
				m.Methods[0].Code[at] = i
				if flow.Check(m.Methods[0].Code) != 0 || missing(m, m.Methods[0], i) {
					continue
				}
				replaced++
				if got, e := types.Rows(m, 0); e != 0 || !slices.EqualFunc(got, rows, equalRow) {
					t.Fatalf("%v %d, not %v, of %v with %v at %d", got, e, rows, l, i, at)
				}
			}
		}
	}
	if replaced < 5000 {
		t.Errorf("%d replaced", replaced)
	}
}

// P10.5: an operand that does not exist is ErrType there, too.
func TestReplacedMissing(t *testing.T) {
	for _, text := range []string{"get 0; ret; nop; ret", "jump 2; nop; get 0; ret", "trap; nop; trap", "loop 2; jump 3; nop; again 0; trap; nop; ret"} {
		l := sample.Code(text)
		rows, e := types.Rows(with(l), 0)
		if e != 0 {
			t.Fatalf("%d, of %s", e, text)
		}
		for at, r := range rows {
			if r.Reached || l[at].Op != api.OpNop {
				continue
			}
			for _, lack := range sample.Code("const 3; get 5; set 5; load 2; store 2; call 5") {
				other := slices.Clone(l)
				other[at] = lack
				compareError(t, with(other), 0, badType)
			}
		}
	}
}
