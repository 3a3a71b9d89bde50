package pure_test

import (
	"math"
	"slices"
	"testing"

	"capstan/api"
	"capstan/pure"
)

// P13.1, P13.2, P13.3: the chapter's examples.
func TestExamples(t *testing.T) {
	m := made("1; s;")
	if is, e := pure.Stores(m, 1); !is || e != 0 {
		t.Errorf("Stores: %v %d", is, e)
	}
	if l, e := pure.Pure(m); !slices.Equal(l, []bool{false, false, true}) || e != 0 {
		t.Errorf("Pure: %v %d", l, e)
	}
	compareCheck(t, m, 0)
	compareCheck(t, made("r 1; s;"), badPure)
	compareCheck(t, made("1; s; r"), 0)
	compareCheck(t, made("1; s; 5"), badArg)
	compareCheck(t, made("r 1; s; r 5"), badArg)
}

// P13.1: wherever the OpStore stands, and whether or not it is reached; no code, and code without one.
func TestStores(t *testing.T) {
	for _, x := range []struct {
		text string
		want bool
	}{
		{"store 0", true}, {"store 3", true}, {"store 0; store 1", true},
		{"store 0; const 0; ret", true}, {"get 0; store 0; const 0; ret", true}, {"const 0; ret; store 0", true}, {"nop; nop; nop; store 2", true},
		{"trap 0; store 0; ret", true}, {"jump 2; store 0; ret", true}, {"loop 2; jump 3; store 0; again 0; ret", true}, {"ret; store 0; call 0; store 0; ret", true},
		{"load 0; ret", false}, {"get 0; set 0; get 0; ret", false}, {"const 5; new 5; pop; const 5; ret", false}, {"call 0; ret", false}, {"nop", false},
	} {
		m := idle(3)
		for k := range m.Methods {
			m.Methods[k].Code = written(x.text)
			if is, e := pure.Stores(m, k); is != x.want || e != 0 {
				t.Errorf("%d: %v %d, of %s", k, is, e, x.text)
			}
			compare(t, m)
			m.Methods[k].Code = nil
			if is, e := pure.Stores(m, k); is || e != 0 {
				t.Errorf("%d: %v %d, without code", k, is, e)
			}
		}
	}
}

// P13.1: at each index of code as long as it may be, and longer.
func TestStoresAt(t *testing.T) {
	for _, n := range []int{1, 2, 199, 200, 201, 1000} {
		m := idle(2)
		m.Methods[1].Code = make([]api.Instr, n)
		compareCheck(t, declared(m, bits(3, 2)), 0)
		for at := range n {
			m.Methods[1].Code[at] = store
			if is, e := pure.Stores(m, 1); !is || e != 0 {
				t.Fatalf("%v %d, at %d of %d", is, e, at, n)
			}
			if l, e := pure.Pure(m); !slices.Equal(l, bits(1, 2)) || e != 0 {
				t.Fatalf("%v %d, at %d of %d", l, e, at, n)
			}
			m.Methods[1].Code[at] = api.Instr{}
		}
	}
}

// P13.1: whom the method calls, and whether that one exists or stores, does not matter.
func TestStoresAlone(t *testing.T) {
	for _, x := range []struct {
		text string
		want []bool
	}{
		{"1; s", bits(2, 2)}, {"1; 0 s", bits(2, 2)}, {"s 1; 0", bits(1, 2)}, {"9; s -1; r", bits(2, 3)}, {"s 3; 3; r s 7", bits(5, 3)}, {"r -1", bits(0, 1)}, {"r s -1", bits(1, 1)},
	} {
		for k, want := range x.want {
			if is, e := pure.Stores(made(x.text), k); is != want || e != 0 {
				t.Errorf("%d: %v %d, of %s", k, is, e, x.text)
			}
		}
	}
}

// P13.1: an index of no method is ErrArg, in a module without methods, too; the first and the last one are indices.
func TestIndex(t *testing.T) {
	for _, n := range []int{0, 1, 2, 15, 16, 17, 40, 300} {
		m := idle(n)
		for k := range m.Methods {
			m.Methods[k].Code = []api.Instr{store}
		}
		for _, k := range append(far(n), -256, 255, 256, 65535, 65536, math.MinInt32, math.MaxInt32) {
			if 0 <= k && k < n {
				continue
			}
			if is, e := pure.Stores(m, k); is || e != badArg {
				t.Errorf("%d: %v %d, of %d methods", k, is, e, n)
			}
		}
		for _, k := range []int{0, n / 2, n - 1} {
			if n == 0 {
				continue
			}
			if is, e := pure.Stores(m, k); !is || e != 0 {
				t.Errorf("%d: %v %d, of %d methods", k, is, e, n)
			}
		}
	}
}

// P13.2, P13.3: a module without methods.
func TestNone(t *testing.T) {
	for _, m := range []api.Module{{}, {Migrate: -1}, {Globals: []api.Value{{Kind: 1, A: 7}}, Pool: []api.Value{{Kind: 9}}, Methods: []api.Method{}, Migrate: 3}} {
		compareCheck(t, m, 0)
		l, e := pure.Pure(m)
		w, other := pure.Say(m)
		if len(l) > 0 || e != 0 || other != 0 || w.Migrate != m.Migrate || !slices.Equal(w.Globals, m.Globals) || !slices.Equal(w.Pool, m.Pool) || len(w.Methods) > 0 {
			t.Errorf("%v %d, %v %d, of %v", l, e, w, other, m)
		}
	}
}

// P13.2, P13.3: methods that call nobody, themselves, each other, chains and rounds that begin at the first method and that don't, two calls of one method; what stores stands at the end of a chain, within a round, and is called from a round.
func TestPure(t *testing.T) {
	for _, x := range []struct {
		text string
		pure []bool
	}{
		{"", []bool{true}},
		{"s", []bool{false}},
		{";;", []bool{true, true, true}},
		{"s; s", []bool{false, false}},
		{"0", []bool{true}},
		{"0 s", []bool{false}},
		{"s 0; 1; 2 2", []bool{false, true, true}},
		{"1; 0", []bool{true, true}},
		{"1 s; 0", []bool{false, false}},
		{"1; s 0", []bool{false, false}},
		{"1; 2; 3; s", []bool{false, false, false, false}},
		{"s; 0; 1; 2", []bool{false, false, false, false}},
		{"1; 2; 3;", []bool{true, true, true, true}},
		{"1 s; 2; 3;", []bool{false, true, true, true}},
		{"1; 2 s; 3;", []bool{false, false, true, true}},
		{"; 0; 1 s; 2", []bool{true, true, false, false}},
		{"; 2; 3; s", []bool{true, false, false, false}},
		{"1; 2; 0", []bool{true, true, true}},
		{"1; 2 s; 0", []bool{false, false, false}},
		{"; 2; 3; 1", []bool{true, true, true, true}},
		{"; 2; s 3; 1", []bool{true, false, false, false}},
		{"1; 2; 0 3; s", []bool{false, false, false, false}},
		{"s; 2; 3 0; 1;", []bool{false, false, false, false, true}},
		{"1; 2; 1; s", []bool{true, true, true, false}},
		{"3; 2; 1; s", []bool{false, true, true, false}},
		{"1; 2; 1; 0 s", []bool{true, true, true, false}},
		{"1; 2; 1 3; s 4;", []bool{false, false, false, false, true}},
		{"1 1; n; 1 n 1", []bool{true, true, true}},
		{"1 1; s s; 1 n 1", []bool{false, false, false}},
		{"1 2; s; ; 2", []bool{false, false, true, true}},
		{"2 1; ; s; 1", []bool{false, true, false, true}},
		{"1 2 3; 4; 4; 4; s", []bool{false, false, false, false, false}},
		{"1 2 3; 4; 4 s; 4;", []bool{false, true, false, true, true}},
		{"n s n; n 0 n; 1 n; n 2", []bool{false, false, false, false}},
		{"s 1 2;; 4 3; 2;", []bool{false, true, true, true, true}},
	} {
		m := made(x.text)
		if l, e := pure.Pure(m); !slices.Equal(l, x.pure) || e != 0 {
			t.Errorf("%v %d, not %v, of %s", l, e, x.pure, x.text)
		}
		compareCheck(t, m, 0) // as none is declared
		compareCheck(t, declared(m, x.pure), 0)
	}
}

// P13.2: declarations, sound ones and others: of a pure method that calls one that is not declared, too.
func TestCheck(t *testing.T) {
	for _, x := range []struct {
		text string
		want api.Errno
	}{
		{"", 0}, {"r", 0}, {"s", 0}, {"r s", badPure}, {"r n s n", badPure}, {"r 0", 0}, {"0", 0}, {"r 0 s", badPure},
		{"r 1;", badPure}, {"r 1; r", 0}, {"1; r", 0}, {"r 1; s", badPure}, {"r 1; r s", badPure}, {"1; r s", badPure}, {"s 1; r", 0}, {"r s 1; r", badPure},
		{"; r 0", badPure}, {"r; r 0", 0}, {"s; r 0", badPure},
		{"r 1; r 0", 0}, {"r 1; 0", badPure}, {"1; r 0", badPure}, {"r 1; r 0 s", badPure},
		{"r 1; r 2; r 3; r", 0}, {"r 1; r 2; r 3; s", badPure}, {"r 1; r 2; r 3;", badPure}, {"r 1; 2; r 3; r", badPure}, {"1; 2; r 3; r", 0}, {"s 1; 2 s; r 3; r", 0},
		{"r 2 1; r;", badPure}, {"r 1 2; r;", badPure}, {"r 1 1 1; r;", 0}, {"r n 1 n 2 n; r; r", 0}, {"r; r; s", 0}, {"s; r; r", 0}, {"r; s; r 0", 0}, {"r; s; r 0 1 0", badPure},
	} {
		compareCheck(t, made(x.text), x.want)
	}
}

// P13.2: each way that Reads can be set in all modules of up to three methods.
func TestCheckAll(t *testing.T) {
	for n := range 4 {
		for m := range all(n) {
			for b := range 1 << n {
				for k, is := range bits(b, n) {
					m.Methods[k].Reads = is
				}
				compare(t, m)
			}
		}
	}
}

// P13.3: all modules of four methods at most one of which stores.
func TestPureAll(t *testing.T) {
	for m := range all(4) {
		count := 0
		for k := range m.Methods {
			if storing(m, k) {
				count++
			}
		}
		if count > 1 {
			continue
		}
		want := purity(m, doing(m).leading())
		if l, e := pure.Pure(m); !slices.Equal(l, want) || e != 0 {
			t.Fatalf("%v %d, not %v, of %v", l, e, want, m)
		}
	}
}

// P13.1, P13.2, P13.3: everything that is told of samples, as they are, as it is said, and of one call more, which may be of a method that does not exist.
func TestGrown(t *testing.T) {
	sound, unsound, missing := 0, 0, 0
	for seed := range seeds {
		m := grown(seed)
		d := dice(seed)
		n := len(m.Methods)
		k := d.below(n)
		for _, m := range []api.Module{m, declared(m, purity(m, doing(m).leading())), inserted(m, k, d.below(len(m.Methods[k].Code)+1), call(d.below(n+2)-1))} {
			switch compare(t, m) {
			case 0:
				sound++
			case badPure:
				unsound++
			case badArg:
				missing++
			}
		}
	}
	if sound < seeds || unsound < seeds/2 || missing < seeds/20 {
		t.Errorf("%d sound, %d not, %d that call what does not exist", sound, unsound, missing)
	}
}

// P13.2, P13.3: an operand that is the index of no method, wherever the call stands, in the first, a middle and the last method, together with stores and with methods whose Reads is true: ErrArg comes first.
func TestMissing(t *testing.T) {
	for _, text := range []string{"", "s", "r", "r s", ";;", "s; r; s", "r s; r s; r s", "1; s;", "r 1; s; r", "r 1; r 2; r 0", "s 1; r 2; 0", "r 0; s 1; 2 r s", "1 2 n; s n; n 2"} {
		m := made(text)
		n := len(m.Methods)
		for k := range n {
			for _, a := range append(far(n), math.MinInt32, math.MaxInt32, 255) {
				for at := range len(m.Methods[k].Code) + 1 {
					compareCheck(t, inserted(m, k, at, call(a)), badArg)
				}
			}
		}
		for range n {
			m = inserted(m, n-1, 0, call(n-1))
		}
		if e := compare(t, m); e == badArg {
			t.Errorf("of the last method, of %v", m)
		}
	}
}

// P13.2, P13.3: such a call alone, in each method of many, that nobody leads to.
func TestMissingMany(t *testing.T) {
	for _, n := range []int{1, 2, 15, 16, 17, 40} {
		m := idle(n)
		for k := range n {
			for _, a := range []int{-1, n} {
				m.Methods[k].Code = []api.Instr{{}, call(a)}
				compareCheck(t, m, badArg)
			}
			m.Methods[k].Code = []api.Instr{call(0), call(n - 1)}
			compareCheck(t, m, 0)
		}
	}
}

// P13.1, P13.2, P13.3: no other opcode stores or calls, whatever its operands; OpStore stores and OpCall calls whatever they are.
func TestOpcodes(t *testing.T) {
	for opcode := range 256 {
		for _, a := range append(far(3), 0, 1, 2, 3, 4, 5) {
			m := made("1; ; s")
			m.Methods[1].Code = []api.Instr{{Op: uint8(opcode), A: a, B: a}}
			want := []bool{true, true, false}
			e := api.OK
			switch {
			case opcode == 5, opcode == 30 && a == 2:
				want = []bool{false, false, false}
			case opcode == 30 && (a < 0 || a > 2):
				want, e = nil, badArg
			}
			answered(t, m, e, want, e)
			compare(t, m)
			if is, e := pure.Stores(m, 1); is != (opcode == 5) || e != 0 {
				t.Errorf("%d %d: %v %d", opcode, a, is, e)
			}
		}
	}
}

// P13.2, P13.3: calls and stores that are not reached are like any others.
func TestUnreached(t *testing.T) {
	for _, text := range []string{"ret; call 1; ret", "trap 0; call 1; ret", "jump 2; call 1; ret", "loop 2; jump 3; call 1; again 0; ret"} {
		m := idle(3)
		m.Methods[0].Code = written(text)
		m.Methods[1].Code = written("ret; store 0; ret")
		answered(t, m, 0, []bool{false, false, true}, 0)
		answered(t, declared(m, []bool{true, false, true}), badPure, []bool{false, false, true}, 0)
		m.Methods[1].Code = written("ret; load 0; ret")
		answered(t, m, 0, []bool{true, true, true}, 0)
		answered(t, declared(m, []bool{true, false, true}), badPure, []bool{true, true, true}, 0)
		m.Methods[1].Code = written("ret; call 3; ret")
		answered(t, declared(m, []bool{true, true, true}), badArg, nil, badArg)
	}
}

// linked returns a module of n methods, each of which calls the one that is step farther on, around the end if it is a round, and no code otherwise.
func linked(n, step int, round bool) api.Module {
	m := idle(n)
	for k := range n {
		to := k + step
		if round {
			to = (to + n) % n
		}
		if 0 <= to && to < n {
			m.Methods[k].Code = []api.Instr{call(to)}
		}
	}
	return m
}

// count returns how many are true.
func count(l []bool) int {
	n := 0
	for _, is := range l {
		if is {
			n++
		}
	}
	return n
}

// P13.2, P13.3: chains and rounds in both directions, as long as levels may be nested, with one method that stores.
func TestLong(t *testing.T) {
	for _, n := range []int{1, 2, 3, 15, 16, 17, 40, 300, 1 << 16} {
		for _, step := range []int{1, -1} {
			for _, k := range []int{0, n / 3, n - 1} {
				chain, round := linked(n, step, false), linked(n, step, true)
				for _, m := range []api.Module{chain, round} {
					if l, e := pure.Pure(m); count(l) != n || len(l) != n || e != 0 {
						t.Fatalf("%d %d, of %d methods", count(l), e, n)
					}
					m.Methods[k].Code = append(m.Methods[k].Code, store)
				}
				left := n - 1 - k // are called from method k on
				if step < 0 {
					left = k
				}
				if l, e := pure.Pure(chain); count(l) != left || len(l) != n || e != 0 || l[k] {
					t.Fatalf("%d %d, not %d, of %d methods", count(l), e, left, n)
				}
				if l, e := pure.Pure(round); count(l) != 0 || len(l) != n || e != 0 {
					t.Fatalf("%d %d, of %d methods", count(l), e, n)
				}
				for _, m := range []api.Module{chain, round} {
					w, e := pure.Say(m)
					if e != 0 || pure.Check(w) != 0 {
						t.Fatalf("%d, of %d methods", e, n)
					}
					w.Methods[k].Reads = true
					if e := pure.Check(w); e != badPure {
						t.Fatalf("%d, of %d methods", e, n)
					}
				}
			}
		}
	}
}

// P13.3: each of many calls all, several times; one of many is called by all, or calls all.
func TestCrowded(t *testing.T) {
	for _, n := range []int{2, 16, 17, 200} {
		crowd, called, caller := idle(n), idle(n), idle(n)
		for a := range n {
			for b := range n {
				crowd.Methods[a].Code = append(crowd.Methods[a].Code, call(b), call(n-1-b))
			}
			called.Methods[a].Code = []api.Instr{call(n / 2)}
			caller.Methods[n/2].Code = append(caller.Methods[n/2].Code, call(a))
		}
		for _, m := range []api.Module{crowd, called, caller} {
			if l, e := pure.Pure(m); count(l) != n || e != 0 {
				t.Errorf("%v %d, of %d methods", l, e, n)
			}
		}
		for k := range n {
			if l, e := pure.Pure(inserted(crowd, k, k, store)); count(l) != 0 || len(l) != n || e != 0 {
				t.Errorf("%v %d, of %d methods", l, e, n)
			}
			l, e := pure.Pure(inserted(caller, k, 0, store))
			if want := n - 2 + count([]bool{k == n/2}); count(l) != want || l[k] || l[n/2] || e != 0 {
				t.Errorf("%v %d, of %d methods", l, e, n)
			}
			l, e = pure.Pure(inserted(called, k, 1, store))
			want := n - 1
			if k == n/2 {
				want = 0
			}
			if count(l) != want || l[k] || e != 0 {
				t.Errorf("%v %d, of %d methods", l, e, n)
			}
		}
	}
}

// P13.3: nothing but Reads is another in what Say returns, whatever the rest is.
func TestSay(t *testing.T) {
	m := made("r 1; r s; 3; ; r 2")
	m.Globals = []api.Value{{Kind: 1, A: 5}, {Kind: 2, A: -1, B: 1 << 20}, {Kind: 3, A: 9}, {}, {Kind: 77, A: 1, B: 2}, {Kind: 1}}
	m.Pool = make([]api.Value, 40)
	m.Migrate = 99
	for k := range m.Methods {
		x := &m.Methods[k]
		x.Args, x.Locals, x.Result = []uint8{1, 2, 3, uint8(k), 9}, make([]uint8, 20+k), uint8(k)
		x.Fuel, x.Stack, x.Heap = -k, 1<<40+k, math.MinInt+k
		x.Code = append(x.Code, api.Instr{Op: 200, A: -k, B: k})
	}
	w, e := pure.Say(m)
	if e != 0 || len(w.Methods) != 5 {
		t.Fatalf("%v %d", w, e)
	}
	for k, want := range []bool{false, false, true, true, true} {
		if w.Methods[k].Reads != want {
			t.Errorf("%d: %v", k, !want)
		}
	}
	compareCheck(t, m, badPure)
	compareCheck(t, w, 0)
}
