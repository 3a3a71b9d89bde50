package calls_test

import (
	"math"
	"slices"
	"testing"

	"capstan/api"
	"capstan/calls"
	"capstan/sample"
)

// P11.1, P11.2, P11.3: the chapter's examples.
func TestExamples(t *testing.T) {
	m := calling("2 1; 2;")
	if whom, e := calls.Whom(m, 0); !slices.Equal(whom, []int{1, 2}) || e != 0 {
		t.Errorf("Whom: %v %d", whom, e)
	}
	if order, e := calls.Order(m); !slices.Equal(order, []int{2, 1, 0}) || e != 0 {
		t.Errorf("Order: %v %d", order, e)
	}
	if leads, e := calls.Leads(m, 0); !slices.Equal(leads, []int{1, 2}) || e != 0 {
		t.Errorf("Leads: %v %d", leads, e)
	}
	if deep, e := calls.Deep(m); !slices.Equal(deep, []int{3, 2, 1}) || e != 0 {
		t.Errorf("Deep: %v %d", deep, e)
	}
	compareError(t, m, 0)
	compareError(t, calling("2 1; 2; 0"), badCycle)
	compareError(t, calling("2 1; 2; 3"), badArg)
	compareError(t, calling("2 1; 2; 0 3"), badArg)
}

// P11.1: what Whom returns, for methods that call once, twice, in descending order, themselves, and nothing.
func TestWhom(t *testing.T) {
	for _, x := range []struct {
		m    api.Module
		whom [][]int
	}{
		{calling(""), [][]int{nil}},
		{calling("0"), [][]int{{0}}},
		{calling("0 0"), [][]int{{0}}},
		{calling("1; 2; 0"), [][]int{{1}, {2}, {0}}},
		{calling("3 2 1; 3 3; 0 3 0; 3 2 1 0"), [][]int{{1, 2, 3}, {3}, {0, 3}, {0, 1, 2, 3}}},
		{calling("; 2 0 2 0 2; ;"), [][]int{nil, {0, 2}, nil, nil}},
		{calling("1 9;; 0 -1; 1"), [][]int{nil, nil, nil, {1}}},
	} {
		for k, want := range x.whom {
			e := api.OK
			if lacks(x.m, k) {
				e = badArg
			}
			if whom, got := calls.Whom(x.m, k); !slices.Equal(whom, want) || got != e {
				t.Errorf("%d: %v %d, not %v %d, of %v", k, whom, got, want, e, x.m)
			}
		}
		compare(t, x.m)
	}
}

// P11.1: the greatest and the least indices that there are, in each order, among 16 methods and among more than a module may have.
func TestWhomMany(t *testing.T) {
	for _, n := range []int{1, 2, 15, 16, 17, 40, 255, 256, 257, 300} {
		m := idle(n)
		var up []int
		for k := range n {
			up = append(up, k)
		}
		down := slices.Clone(up)
		slices.Reverse(down)
		for _, l := range [][]int{up, down, slices.Concat(up, down), slices.Concat(down, up)} {
			m.Methods[n/2] = listed(l).Methods[0]
			if whom, e := calls.Whom(m, n/2); !slices.Equal(whom, up) || e != 0 {
				t.Errorf("%v %d, of %d methods", whom, e, n)
			}
		}
	}
}

// P11.1, P11.3: an index of no method is ErrArg, in a module without methods, too.
func TestIndex(t *testing.T) {
	for _, n := range []int{0, 1, 2, 16, 17, 40, 300} {
		m := idle(n)
		for _, k := range append(far(n), 255, 256, 65535, 65536) {
			if 0 <= k && k < n {
				continue
			}
			if whom, e := calls.Whom(m, k); len(whom) > 0 || e != badArg {
				t.Errorf("Whom(%d): %v %d, of %d methods", k, whom, e, n)
			}
			if leads, e := calls.Leads(m, k); len(leads) > 0 || e != badArg {
				t.Errorf("Leads(%d): %v %d, of %d methods", k, leads, e, n)
			}
		}
	}
	compareError(t, api.Module{}, 0)
	compareError(t, api.Module{Methods: []api.Method{}, Migrate: 7}, 0)
}

// P11.2: a module without methods has an order, which is empty; no method is deep.
func TestNone(t *testing.T) {
	for _, m := range []api.Module{{}, {Migrate: -1}, {Globals: []api.Value{{Kind: 1}}, Pool: []api.Value{{Kind: 9}}, Methods: []api.Method{}, Migrate: 3}} {
		order, e := calls.Order(m)
		deep, other := calls.Deep(m)
		if len(order) > 0 || len(deep) > 0 || e != 0 || other != 0 || calls.Check(m) != 0 {
			t.Errorf("%v %d, %v %d, of %v", order, e, deep, other, m)
		}
	}
}

// P11.1, P11.2, P11.3: an operand that is the index of no method, wherever the call stands: Whom tells it of that method alone, the others of each.
func TestMissing(t *testing.T) {
	for _, text := range []string{"", ";", "2 1; 2;", "; 0; 1; 2", "1; 2; 3;", "3 1;; 1 3;"} {
		m := calling(text)
		n := len(m.Methods)
		for k := range n {
			for _, a := range append(far(n), math.MinInt32, math.MaxInt32, 255) {
				for at := range len(m.Methods[k].Code) + 1 {
					other := inserted(m, k, at, call(a))
					compareError(t, other, badArg)
					if whom, e := calls.Whom(other, k); len(whom) > 0 || e != badArg {
						t.Errorf("%v %d, of %v", whom, e, other)
					}
					for sound := range n {
						if _, e := calls.Whom(other, sound); e != 0 && sound != k {
							t.Errorf("%d of the method %d of %v", e, sound, other)
						}
					}
				}
			}
		}
	}
}

// P11.2, P11.3: such a call together with a cycle, ahead of it, behind it, inside it and outside: ErrArg.
func TestMissingCycle(t *testing.T) {
	for _, text := range []string{"0", "0;", "; 1", "1; 0", "1; 0;", ";2;1", "1; 2; 0", "1; 2; 3; 1", ";;; 3"} {
		m := calling(text)
		compareError(t, m, badCycle)
		for k := range m.Methods {
			for _, a := range []int{-1, len(m.Methods), math.MaxInt, math.MinInt} {
				compareError(t, inserted(m, k, 0, call(a)), badArg)
				compareError(t, inserted(m, k, len(m.Methods[k].Code), call(a)), badArg)
			}
		}
	}
}

// P11.1, P11.2, P11.3: calls that are not reached are calls like any others.
func TestUnreached(t *testing.T) {
	for _, text := range []string{"ret; call 1; ret", "trap; call 1; ret", "jump 2; call 1; ret", "nop; jump 3; call 1; trap", "loop 2; jump 3; call 1; again 0; ret"} {
		m := coded(text, "ret")
		if whom, e := calls.Whom(m, 0); !slices.Equal(whom, []int{1}) || e != 0 {
			t.Errorf("%v %d, of %s", whom, e, text)
		}
		compareError(t, m, 0)
		compareError(t, coded(text, "ret; call 0"), badCycle)
		compareError(t, coded(text), badArg)
		compareError(t, coded("ret", text, "ret; call 0; nop"), badCycle)
	}
}

// P11.1, P11.2, P11.3: no other opcode calls anything, whatever its operand; OpCall calls whatever stands in B.
func TestOtherOpcodes(t *testing.T) {
	for opcode := range 256 {
		for _, a := range append(far(3), 0, 1, 2) {
			i := api.Instr{Op: uint8(opcode), A: a, B: a}
			want := api.OK
			switch {
			case opcode != 30:
			case a < 0 || a > 2:
				want = badArg
			case a < 2:
				want = badCycle // the method 1 calls itself, or 0, which calls it
			}
			compareError(t, inserted(calling("1; 2;"), 1, 0, i), want)
		}
	}
}

// P11.1, P11.2, P11.3: neither empty code nor code that is not well-formed otherwise is an error here; nor is anything else that other layers refuse.
func TestNotWellFormed(t *testing.T) {
	for _, text := range []string{"", "nop", "again 0", "jump 0", "loop 0; loop 101", "get 16; const 32", "add; pop", "nop; jump 900; trap 256"} {
		compareError(t, coded(text), 0)
		m := coded(text+"; call 1; "+text, text, text+"; call 1; call 0; "+text)
		compareError(t, m, 0)
		if whom, e := calls.Whom(m, 2); !slices.Equal(whom, []int{0, 1}) || e != 0 {
			t.Errorf("%v %d, of %s", whom, e, text)
		}
		compareError(t, coded(text+"; call 1; "+text, "call 0;"+text), badCycle)
		compareError(t, coded(text+"; call 3; "+text, "call 0;"+text), badArg)
	}
	m := calling("1; 2;")
	m.Migrate = 40
	m.Pool = make([]api.Value, 50)
	for k := range m.Methods {
		m.Methods[k].Args, m.Methods[k].Result, m.Methods[k].Reads, m.Methods[k].Fuel = make([]uint8, 20), 9, k == 0, -1
	}
	compareError(t, m, 0)
	m.Methods[1].Code = append(slices.Repeat(sample.Code("nop"), 500), call(0))
	compareError(t, m, badCycle)
	m.Methods[1].Code = slices.Repeat([]api.Instr{call(2), call(2), call(0), call(1)}, 300)
	compareError(t, m, badCycle)
}

// P11.2: orders, among them those in which several methods could come next.
func TestOrder(t *testing.T) {
	for _, x := range []struct {
		text  string
		order []int
	}{
		{"", []int{0}},
		{";", []int{0, 1}},
		{";;;", []int{0, 1, 2, 3}},
		{"1;", []int{1, 0}},
		{"; 0", []int{0, 1}},
		{"1; 2; 3;", []int{3, 2, 1, 0}},
		{"; 0; 1; 2", []int{0, 1, 2, 3}},
		{"3;; 0;", []int{1, 3, 0, 2}},
		{"3;;;", []int{1, 2, 3, 0}},
		{"2;;; 0", []int{1, 2, 0, 3}},
		{"4; 3; 3;; 3", []int{3, 1, 2, 4, 0}},
		{"3 4; 3; 4;;", []int{3, 1, 4, 0, 2}},
		{"5;; 5; 5;;", []int{1, 4, 5, 0, 2, 3}},
		{"5; 0; 1; 2; 3;", []int{5, 0, 1, 2, 3, 4}},
		{"1 2 3 4; 4; 4; 4;", []int{4, 1, 2, 3, 0}},
		{"2 1; 2;; 1 1 0", []int{2, 1, 0, 3}},
		{";;; 1 2; 0; 4 3", []int{0, 1, 2, 3, 4, 5}},
	} {
		m := calling(x.text)
		if order, e := calls.Order(m); !slices.Equal(order, x.order) || e != 0 {
			t.Errorf("%v %d, not %v, of %s", order, e, x.order, x.text)
		}
		compareError(t, m, 0)
	}
}

// P11.2: cycles of one, two and more methods, that begin anywhere, with others ahead of them, behind them, leading to them and led to.
func TestCycles(t *testing.T) {
	for _, text := range []string{
		"0", "0 0", "0;", "; 1", ";; 2;", "1 0;",
		"1; 0", "1; 0;", "; 2; 1", "2;; 0", "1;2;1", "3;3;;1", ";;; 4; 3",
		"1; 2; 0", "2; 0; 1", "; 2; 3; 1", "; 3; 1; 2", "1; 2; 3; 1", "4;; 4 1; 2; 3",
		"1; 2; 3; 4; 5; 0", "5; 0; 1; 2; 3; 4", "3; 4; 5; 1; 2; 0", "1; 2 0; 1", "1 2; 2; 3; 4; 1",
	} {
		compareError(t, calling(text), badCycle)
	}
}

// P11.2: cycles of all methods, each of which calls the next one or the one before; where a single one calls nothing, there is none.
func TestCyclesOfAll(t *testing.T) {
	for _, n := range []int{1, 2, 3, 15, 16, 17, 40} {
		for _, step := range []int{1, 2*n - 1} {
			m := idle(n)
			for k := range n {
				m.Methods[k].Code = append(sample.Code("ret"), call((k+step)%n))
			}
			compareError(t, m, badCycle)
			for k := range n {
				code := m.Methods[k].Code
				m.Methods[k].Code = sample.Code("ret")
				compareError(t, m, 0)
				m.Methods[k].Code = code
			}
		}
	}
}

// P11.3: to whom methods lead, directly and in several ways.
func TestLeads(t *testing.T) {
	for _, x := range []struct {
		text  string
		leads [][]int
	}{
		{"", [][]int{nil}},
		{";;", [][]int{nil, nil, nil}},
		{"1; 2; 3;", [][]int{{1, 2, 3}, {2, 3}, {3}, nil}},
		{"; 0; 1; 2", [][]int{nil, {0}, {0, 1}, {0, 1, 2}}},
		{"1 2; 3; 3;", [][]int{{1, 2, 3}, {3}, {3}, nil}},
		{"3 2 1; 3; 3 1 3;", [][]int{{1, 2, 3}, {3}, {1, 3}, nil}},
		{"4; 4; 4; 4;; 2", [][]int{{4}, {4}, {4}, {4}, nil, {2, 4}}},
		{"2;; 1; 5;; 1", [][]int{{1, 2}, nil, {1}, {1, 5}, nil, {1}}},
	} {
		m := calling(x.text)
		for k, want := range x.leads {
			if leads, e := calls.Leads(m, k); !slices.Equal(leads, want) || e != 0 {
				t.Errorf("%d: %v %d, not %v, of %s", k, leads, e, want, x.text)
			}
		}
		compareError(t, m, 0)
	}
}

// P11.3: the error of the module comes before that of the index.
func TestLeadsErrors(t *testing.T) {
	for _, x := range []struct {
		text string
		want api.Errno
	}{{"0", badCycle}, {"1; 0;", badCycle}, {"; 2; 1;", badCycle}, {"1", badArg}, {"-1;", badArg}, {"0 9", badArg}, {"1;; 3", badArg}, {"; 0", 0}} {
		m := calling(x.text)
		for k := range m.Methods {
			if leads, e := calls.Leads(m, k); e != x.want || e != 0 && len(leads) > 0 {
				t.Errorf("%d: %v %d, not %d, of %s", k, leads, e, x.want, x.text)
			}
		}
		want := x.want
		if want == 0 {
			want = badArg
		}
		for _, k := range far(len(m.Methods)) {
			if leads, e := calls.Leads(m, k); e != want || len(leads) > 0 {
				t.Errorf("%d: %v %d, not %d, of %s", k, leads, e, want, x.text)
			}
		}
	}
}

// P11.3: how long the longest of several chains is.
func TestDeep(t *testing.T) {
	for _, x := range []struct {
		text string
		deep []int
	}{
		{"", []int{1}},
		{";;", []int{1, 1, 1}},
		{"1; 2; 3;", []int{4, 3, 2, 1}},
		{"; 0; 1; 2", []int{1, 2, 3, 4}},
		{"1 2; 3; 3;", []int{3, 2, 2, 1}},
		{"1 3; 2; 3;", []int{4, 3, 2, 1}},
		{"3 1; 2; 3;", []int{4, 3, 2, 1}},
		{"1 2 3 4; 5; 6; 7; 8;; 5; 6; 7", []int{6, 2, 3, 4, 5, 1, 2, 3, 4}},
		{"4 1; 2; 3;;; 0 4", []int{4, 3, 2, 1, 1, 5}},
		{"2 2 2 2;; 1", []int{3, 1, 2}},
	} {
		m := calling(x.text)
		if deep, e := calls.Deep(m); !slices.Equal(deep, x.deep) || e != 0 {
			t.Errorf("%v %d, not %v, of %s", deep, e, x.deep, x.text)
		}
		compareError(t, m, 0)
	}
}

// chain returns a module of n methods, each of which calls the one that is step farther on, if there is one.
func chain(n, step int) api.Module {
	m := idle(n)
	for k := range n {
		if to := k + step; 0 <= to && to < n {
			m.Methods[k].Code = sample.Code("ret; nop; ret")
			m.Methods[k].Code[1] = call(to)
		}
	}
	return m
}

// compareChain holds what is told of a chain of n methods, in which each calls the next or the one before, against what it is to be.
func compareChain(t *testing.T, n, step int) {
	t.Helper()
	var up []int
	for k := range n {
		up = append(up, k+1)
	}
	deep := slices.Clone(up)
	slices.Reverse(deep)
	first := 0
	if step < 0 {
		deep, first = up, n-1
	}
	m := chain(n, step)
	if got, e := calls.Deep(m); !slices.Equal(got, deep) || e != 0 {
		t.Errorf("Deep: %d, of %d methods", e, n)
	}
	order, e := calls.Order(m)
	if e != 0 || len(order) != n {
		t.Fatalf("Order: %d, of %d methods", e, n)
	}
	for at, k := range order {
		if deep[k] != at+1 {
			t.Fatalf("the method %d is at %d, of %d methods", k, at, n)
		}
	}
	if leads, e := calls.Leads(m, first); len(leads) != n-1 || e != 0 {
		t.Errorf("Leads: %d, %d, of %d methods", len(leads), e, n)
	}
	if leads, e := calls.Leads(m, n-1-first); len(leads) != 0 || e != 0 {
		t.Errorf("Leads: %d, %d, of %d methods", len(leads), e, n)
	}
	m.Methods[n-1-first].Code = []api.Instr{call(first)}
	if e := calls.Check(m); e != badCycle {
		t.Errorf("Check: %d, of %d methods", e, n)
	}
}

// P11.2, P11.3: chains in which each calls the next, and in which each calls the one before, as long as levels may be nested.
func TestChains(t *testing.T) {
	for _, n := range []int{1, 2, 3, 15, 16, 17, 40, 300, 1 << 16} {
		compareChain(t, n, 1)
		compareChain(t, n, -1)
	}
	for _, n := range []int{16, 40} {
		for _, step := range []int{1, -1, 2, -2, 7, -7} {
			compareError(t, chain(n, step), 0)
		}
	}
}

// P11.1, P11.2, P11.3: everything that is told of all modules of up to four methods, and of samples.
func TestAll(t *testing.T) {
	for n := range 5 {
		for m := range all(n) {
			compare(t, m)
		}
	}
	for seed := range seeds {
		m := grown(seed)
		compareError(t, m, 0)
		d := dice(seed)
		n := len(m.Methods)
		for range 3 {
			k := d.below(n)
			compare(t, inserted(m, k, d.below(len(m.Methods[k].Code)+1), call(d.below(n+2)-1)))
		}
	}
}
