package cost_test

import (
	"math"
	"slices"
	"strconv"
	"testing"

	"capstan/api"
	"capstan/cost"
	"capstan/sample"
)

// The limits stand in api as the document has them.
func TestLimits(t *testing.T) {
	if api.MaxFuel != maxFuel || api.MaxStack != maxStack || api.MaxHeap != maxHeap {
		t.Errorf("%d, %d, %d", api.MaxFuel, api.MaxStack, api.MaxHeap)
	}
}

// around returns numbers at, below and beyond each of these.
func around(l ...int) []int {
	out := []int{math.MinInt, -1, 0, 1, math.MaxInt}
	for _, n := range l {
		out = append(out, n-1, n, n+1)
	}
	return out
}

// P12.1: each of the three numbers at each edge, with declarations less than the limit, the same, and greater, the two others fitting.
func TestFits(t *testing.T) {
	fitting := func() (api.Cert, api.Method) {
		return api.Cert{Fuel: 2, Stack: 2, Heap: 2}, api.Method{Fuel: 2, Stack: 2, Heap: 2}
	}
	for name, part := range map[string]struct {
		limit int
		set   func(c *api.Cert, x *api.Method, n, declared int)
	}{
		"fuel":  {maxFuel, func(c *api.Cert, x *api.Method, n, declared int) { c.Fuel, x.Fuel = n, declared }},
		"stack": {maxStack, func(c *api.Cert, x *api.Method, n, declared int) { c.Stack, x.Stack = n, declared }},
		"heap":  {maxHeap, func(c *api.Cert, x *api.Method, n, declared int) { c.Heap, x.Heap = n, declared }},
	} {
		for _, declared := range append(around(part.limit), 7, part.limit*2) {
			for _, n := range around(declared, part.limit) {
				c, x := fitting()
				part.set(&c, &x, n, declared)
				want := n >= 0 && n <= declared && n <= part.limit
				if got := cost.Fits(c, x); got != want {
					t.Errorf("%s %d, declared %d: %v", name, n, declared, got)
				}
			}
		}
	}
}

// P12.1: all three numbers matter, each held against its own declaration and limit.
func TestFitsAll(t *testing.T) {
	edges := []int{-1, 0, 3, 4, maxStack, maxStack + 1, maxHeap, maxHeap + 1, maxFuel, maxFuel + 1}
	for _, declared := range [][3]int{{0, 0, 0}, {3, 4, 5}, {5, 3, 4}, {maxFuel, maxStack, maxHeap}, {maxFuel + 5, maxFuel + 5, maxFuel + 5}, {-1, 9, 9}, {9, -1, 9}, {9, 9, -1}} {
		x := api.Method{Fuel: declared[0], Stack: declared[1], Heap: declared[2]}
		for _, fuel := range edges {
			for _, stack := range edges {
				for _, heap := range edges {
					want := min(fuel, stack, heap) >= 0 && fuel <= min(declared[0], maxFuel) && stack <= min(declared[1], maxStack) && heap <= min(declared[2], maxHeap)
					if got := cost.Fits(api.Cert{Fuel: fuel, Stack: stack, Heap: heap}, x); got != want {
						t.Errorf("%d %d %d, declared %v: %v", fuel, stack, heap, declared, got)
					}
				}
			}
		}
	}
}

// P12.1: nothing but the declarations of a method matters, neither its code nor its kinds.
func TestFitsAlone(t *testing.T) {
	c := api.Cert{Fuel: 3, Stack: 2, Heap: 1}
	for _, text := range []string{"", "ret", "add; jump 0", "loop 100; new 1024; again 0; call 99"} {
		x := methodOf("nrpx", "nn", text)
		if !cost.Fits(c, x) {
			t.Errorf("does not fit: %s", text)
		}
		x.Heap = 0
		if cost.Fits(c, x) {
			t.Errorf("fits: %s", text)
		}
	}
}

// The chapter's examples.
func TestExamples(t *testing.T) {
	m := with(methodOf("n", "", "get 0; ret"), methodOf("", "", "loop 3; const 0; new 4; pop; again 0; const 0; ret"), methodOf("", "", "const 0; call 0; ret"))
	compareCerts(t, m, api.Cert{Fuel: 2, Stack: 2}, api.Cert{Fuel: 15, Stack: 1, Heap: 12}, api.Cert{Fuel: 5, Stack: 2})
}

// The document's first example: a method that adds its argument to a global.
func TestExampleWhole(t *testing.T) {
	compareCerts(t, with(methodOf("n", "", "load 0; get 0; add; store 0; load 0; ret")), api.Cert{Fuel: 6, Stack: 3})
}

// P12.2: modules without methods.
func TestNoMethods(t *testing.T) {
	compareCerts(t, api.Module{})
	compareCerts(t, with())
	compareCerts(t, api.Module{Methods: []api.Method{}, Migrate: 7})
}

// P12.2: the numbers of a method that calls none.
func TestOwn(t *testing.T) {
	for _, x := range []struct {
		args, locals, text string
		want               api.Cert
	}{
		{"", "", "trap", api.Cert{Fuel: 1}},
		{"", "", "const 0; ret", api.Cert{Fuel: 2, Stack: 1}},
		{"n", "", "trap", api.Cert{Fuel: 1, Stack: 1}},
		{"", "n", "trap", api.Cert{Fuel: 1, Stack: 1}},
		{"npr", "", "get 0; ret", api.Cert{Fuel: 2, Stack: 4}},
		{"", "rpn", "get 2; ret", api.Cert{Fuel: 2, Stack: 4}},
		{"npnr", "rpnnpprrnnnn", "get 2; get 0; add; ret", api.Cert{Fuel: 4, Stack: 18}},
		{"", "", "5* const 0; 4* add; ret", api.Cert{Fuel: 10, Stack: 5}},
		{"", "", "5* const 0; ret", api.Cert{Fuel: 6, Stack: 5}},
		{"", "", "const 0; pop; const 0; dup; dup; 2* pop; ret", api.Cert{Fuel: 8, Stack: 3}},
		{"", "", "const 0; new 0; len; ret", api.Cert{Fuel: 4, Stack: 1}},
		{"", "", "const 0; new 3; const 0; new 4; 2* pop; trap", api.Cert{Fuel: 7, Stack: 2, Heap: 7}},
		{"n", "n", "get 0; zero 3; trap; const 0; ret", api.Cert{Fuel: 5, Stack: 3}},
		{"n", "", "get 0; zero 4; const 0; ret; 3* const 0; ret", api.Cert{Fuel: 8, Stack: 4}},
		{"n", "", "get 0; zero 5; const 0; new 5; trap; const 0; new 6; trap", api.Cert{Fuel: 8, Stack: 2, Heap: 11}},
	} {
		compareCerts(t, with(methodOf(x.args, x.locals, x.text)), x.want)
	}
}

// P12.2: loops, among them those that begin at the first instruction, and those within one another.
func TestLoops(t *testing.T) {
	for _, x := range []struct {
		text string
		want api.Cert
	}{
		{"loop 1; again 0; trap", api.Cert{Fuel: 3}},
		{"loop 100; again 0; trap", api.Cert{Fuel: 102}},
		{"loop 7; nop; again 0; loop 5; again 3; trap", api.Cert{Fuel: 1 + 14 + 1 + 5 + 1}},
		{"nop; loop 7; nop; again 1; nop; trap", api.Cert{Fuel: 1 + 1 + 14 + 2}},
		{"loop 2; loop 3; nop; again 1; again 0; trap", api.Cert{Fuel: 1 + 2 + 6 + 6 + 2 + 1}},
		{"loop 2; loop 3; loop 5; loop 7; again 3; again 2; again 1; again 0; trap", api.Cert{Fuel: 1 + 2 + 6 + 30 + 210 + 30 + 6 + 2 + 1}},
		{"loop 4; const 0; new 5; pop; again 0; trap", api.Cert{Fuel: 1 + 16 + 1, Stack: 1, Heap: 20}},
		{"loop 4; loop 3; const 0; new 5; pop; again 1; again 0; trap", api.Cert{Fuel: 1 + 4 + 48 + 4 + 1, Stack: 1, Heap: 60}},
		{"const 0; new 9; loop 4; again 2; const 0; new 9; trap", api.Cert{Fuel: 2 + 1 + 4 + 3, Stack: 2, Heap: 18}},
		{"loop 4; const 0; new 0; pop; again 0; trap", api.Cert{Fuel: 18, Stack: 1}},
		// What stands behind a jump out of a loop counts for each turn all the same, and so does a trap in a loop.
		{"loop 10; const 0; zero 5; trap; again 0; trap", api.Cert{Fuel: 1 + 40 + 1, Stack: 1}},
		{"loop 10; jump 4; new 3; again 0; trap", api.Cert{Fuel: 1 + 30 + 1, Heap: 30}},
	} {
		compareCerts(t, coded(x.text), x.want)
	}
}

// P12.2: calls of methods before and behind the one that calls, several of one method, chains, and calls in loops.
func TestCalls(t *testing.T) {
	leaf := api.Cert{Fuel: 5, Stack: 2, Heap: 3}
	const code = "const 0; new 3; const 0; pop; trap"
	for _, x := range []struct {
		texts []string
		want  []api.Cert
	}{
		{[]string{code, "call 0; ret"}, []api.Cert{leaf, {Fuel: 7, Stack: 2, Heap: 3}}},
		{[]string{"call 1; ret", code}, []api.Cert{{Fuel: 7, Stack: 2, Heap: 3}, leaf}},
		{[]string{"call 2; ret", "nop; trap", code, "call 0; ret"}, []api.Cert{{Fuel: 7, Stack: 2, Heap: 3}, {Fuel: 2}, leaf, {Fuel: 9, Stack: 2, Heap: 3}}},
		{[]string{code, "call 0; call 0; add; ret"}, []api.Cert{leaf, {Fuel: 14, Stack: 3, Heap: 6}}},
		{[]string{code, "call 0; pop; call 0; ret"}, []api.Cert{leaf, {Fuel: 14, Stack: 2, Heap: 6}}},
		{[]string{code, "loop 4; call 0; pop; again 0; trap"}, []api.Cert{leaf, {Fuel: 1 + 4*8 + 1, Stack: 2, Heap: 12}}},
		{[]string{code, "loop 4; loop 3; call 0; pop; again 1; again 0; trap"}, []api.Cert{leaf, {Fuel: 1 + 4 + 12*8 + 4 + 1, Stack: 2, Heap: 36}}},
		{[]string{code, "loop 2; call 0; pop; loop 3; call 0; pop; again 3; again 0; call 0; ret"}, []api.Cert{leaf, {Fuel: 1 + 2*7 + 2 + 6*8 + 2 + 7, Stack: 2, Heap: 6 + 18 + 3}}},
		{[]string{"loop 3; call 1; pop; again 0; trap", "loop 5; call 2; pop; again 0; trap", code}, []api.Cert{{Fuel: 1 + 3*(3+42) + 1, Stack: 2, Heap: 45}, {Fuel: 1 + 5*8 + 1, Stack: 2, Heap: 15}, leaf}},
		{[]string{"loop 4; const 0; new 6; pop; again 0; trap", "loop 3; call 0; pop; again 0; const 0; new 2; trap"}, []api.Cert{{Fuel: 18, Stack: 1, Heap: 24}, {Fuel: 1 + 3*21 + 3, Stack: 1, Heap: 74}}},
		{[]string{"call 1; call 2; add; ret", "call 2; ret", "const 0; ret"}, []api.Cert{{Fuel: 4 + 4 + 2, Stack: 2}, {Fuel: 4, Stack: 1}, {Fuel: 2, Stack: 1}}},
	} {
		compareCerts(t, coded(x.texts...), x.want...)
	}
}

// P12.2: chains of calls, of each length that there may be, in either direction; and methods that are too far back to be called.
func TestChains(t *testing.T) {
	for n := 1; n <= 16; n++ {
		up, down := with(), with()
		var certs []api.Cert
		for k := range n {
			up.Methods = append(up.Methods, methodOf("", "n", "const 0; call "+strconv.Itoa(k+1)+"; add; ret"))
			down.Methods = append(down.Methods, methodOf("", "n", "const 0; call "+strconv.Itoa(k-1)+"; add; ret"))
			certs = append(certs, api.Cert{Fuel: 4*k + 2, Stack: 2*k + 2})
		}
		down.Methods[0].Code, up.Methods[n-1].Code = sample.Code("const 0; ret"), sample.Code("const 0; ret")
		compareCerts(t, down, certs...)
		down.Methods = append(down.Methods, methodOf("", "", "call "+strconv.Itoa(n-1)+"; ret"), methodOf("p", "", "trap"))
		compareCerts(t, down, append(slices.Clone(certs), api.Cert{Fuel: 4 * n, Stack: 2 * n}, api.Cert{Fuel: 1, Stack: 1})...)
		slices.Reverse(certs)
		compareCerts(t, up, certs...)
	}
	m := coded(slices.Repeat([]string{"trap"}, 17)...)
	m.Methods[3].Code = sample.Code("call 15; ret")
	compareError(t, m, 0)
	m.Methods[3].Code = sample.Code("call 16; ret")
	compareError(t, m, badOp)
}

// P12.2: each method calls the one before it several times: ErrCost as soon as that is more than fits, however far beyond.
func TestTowers(t *testing.T) {
	m := with()
	fuel := 2
	var certs []api.Cert
	for k := range 16 {
		text := "const 0; ret"
		if k > 0 {
			text = "4* call " + strconv.Itoa(k-1) + "; ret"
			fuel = 4*(fuel+1) + 1
		}
		m.Methods = append(m.Methods, methodOf("", "", text))
		certs = append(certs, api.Cert{Fuel: fuel, Stack: 3*k + 1})
		if fuel <= maxFuel {
			compareCerts(t, m, certs...)
		} else {
			compareError(t, m, badCost)
		}
	}
	if fuel < maxFuel<<8 {
		t.Errorf("%d", fuel)
	}
	// Here the numbers go beyond 64 bits, and would come round to what fits.
	const loops = "loop 64; loop 64; loop 64; loop 64; "
	const agains = "again 3; again 2; again 1; again 0; const 0; ret"
	m = coded("const 0; new 64; pop; const 0; ret")
	for k := range 15 {
		m.Methods = append(m.Methods, methodOf("", "", loops+"call "+strconv.Itoa(k)+"; pop; "+agains))
	}
	for k := range m.Methods {
		m.Methods[k].Fuel, m.Methods[k].Stack, m.Methods[k].Heap = math.MaxInt, math.MaxInt, math.MaxInt
	}
	compareError(t, m, badCost)
}

// P12.2: instructions that are not reached count for Fuel and Heap, calls among them; none of them counts for Stack.
func TestUnreached(t *testing.T) {
	called := methodOf("nn", "nnprr", "20* const 0; new 6; trap")
	taken := api.Cert{Fuel: 22, Stack: 27, Heap: 6}
	for _, x := range []struct {
		text string
		want api.Cert
	}{
		{"jump 2; call 1; trap", api.Cert{Fuel: 3 + 22, Heap: 6}},
		{"jump 4; const 0; const 0; call 1; trap", api.Cert{Fuel: 5 + 22, Heap: 6}},
		{"trap; const 0; const 0; call 1; ret", api.Cert{Fuel: 5 + 22, Heap: 6}},
		{"const 0; ret; new 7; 9* dup; call 1; call 1; ret", api.Cert{Fuel: 15 + 44, Stack: 1, Heap: 7 + 12}},
		{"const 0; const 0; call 1; ret; call 1; trap", api.Cert{Fuel: 6 + 44, Stack: 27, Heap: 12}},
		{"jump 6; loop 3; call 1; new 5; pop; again 1; trap", api.Cert{Fuel: 1 + 1 + 3*(4+22) + 1, Heap: 3 * 11}},
		{"jump 1; loop 3; jump 5; new 5; call 1; again 1; trap", api.Cert{Fuel: 1 + 1 + 3*(4+22) + 1, Heap: 3 * 11}},
		{"jump 1; loop 3; jump 6; new 5; call 1; again 1; trap", api.Cert{Fuel: 1 + 1 + 3*(4+22) + 1, Heap: 3 * 11}},
		{"trap; loop 100; loop 100; again 2; again 1; trap", api.Cert{Fuel: 1 + 1 + 100 + 10000 + 100 + 1}},
		{"trap; loop 10; loop 10; const 0; new 10; pop; again 2; again 1; trap", api.Cert{Fuel: 1 + 1 + 10 + 400 + 10 + 1, Heap: 1000}},
	} {
		compareCerts(t, with(methodOf("", "", x.text), called), x.want, taken)
	}
	compareError(t, coded("trap; new 1024; trap"), 0)
	compareError(t, coded("trap; new 1024; new 1; trap"), badCost)
	compareError(t, coded("trap; loop 100; loop 100; loop 100; nop; again 3; again 2; again 1; trap"), badCost)
}

// P12.2: what stays in the caller's frame where the arguments of a call are taken, with a called method that takes more than the caller and one that takes less.
func TestStack(t *testing.T) {
	for _, x := range []struct {
		args, locals, text string // of the method that calls
		called             api.Method
		want, calledWant   int
	}{
		{"", "", "call 1; ret", methodOf("", "", "trap"), 1, 0},
		{"", "", "call 1; ret", methodOf("", "", "7* const 0; trap"), 7, 7},
		{"n", "pr", "call 1; ret", methodOf("", "", "7* const 0; trap"), 10, 7},
		{"n", "pr", "const 0; call 1; ret", methodOf("n", "", "7* const 0; trap"), 11, 8},
		{"n", "pr", "const 0; const 0; call 1; add; ret", methodOf("n", "", "7* const 0; trap"), 12, 8},
		{"n", "pr", "5* const 0; call 1; ret", methodOf("nnn", "", "trap"), 8, 3},
		{"n", "pr", "5* const 0; call 1; ret", methodOf("nnn", "n", "trap"), 9, 4},
		{"n", "pr", "5* const 0; call 1; ret", methodOf("nnn", "nr", "const 0; trap"), 11, 6},
		{"n", "pr", "9* const 0; 6* pop; call 1; ret", methodOf("nnn", "nr", "const 0; trap"), 12, 6},
		{"n", "pr", "9* const 0; 6* pop; call 1; ret", methodOf("nnn", "nr", "5* const 0; trap"), 13, 10},
		{"", "", "4* const 0; call 1; ret", methodOf("nnnn", "", "trap"), 4, 4},
		{"", "", "4* const 0; call 1; ret", methodOf("nnnn", "", "const 0; trap"), 5, 5},
		{"nnnn", "nnnnnnnnnnnn", "get 0; 30* dup; call 1; ret", methodOf("n", "nnnnn", "40* get 0; trap"), 16 + 30 + 46, 46},
		{"", "", "loop 2; call 1; pop; again 0; const 0; const 0; call 1; add; add; ret", methodOf("", "", "5* const 0; trap"), 7, 5},
		{"", "", "const 0; const 0; call 1; add; call 1; ret", methodOf("", "", "5* const 0; trap"), 7, 5},
	} {
		certs, e := compare(t, with(methodOf(x.args, x.locals, x.text), x.called))
		if e != 0 || certs[0].Stack != x.want || certs[1].Stack != x.calledWant {
			t.Errorf("%v %d, not stacks of %d and %d, of %s", certs, e, x.want, x.calledWant, x.text)
		}
	}
}

// fueled returns the code of a method whose Fuel is n, which is about maxFuel.
func fueled(n int) string {
	n -= 1020203 // what three loops of 100 turns within one another and the end take
	nops := func(times int) string { return strconv.Itoa(times) + "* nop; " }
	return "loop 100; loop 100; loop 100; again 2; " + nops(n/10000) + "again 1; " + nops(n%10000/100) + "again 0; " + nops(n%100) + "const 0; ret"
}

// P12.2: certificates just at a limit, and one beyond, by a method's own code and by a call.
func TestMost(t *testing.T) {
	for beyond := -2; beyond <= 2; beyond++ {
		var want api.Errno
		if beyond > 0 {
			want = badCost
		}
		compareError(t, coded(fueled(maxFuel+beyond)), want)
		compareError(t, coded("call 1; ret", fueled(maxFuel+beyond-2)), want)
		compareError(t, with(methodOf("", "nnnnnnnnnnnnnnnn", "140* const 0; call 1; trap"), methodOf("", "", strconv.Itoa(maxStack+beyond-156)+"* const 0; trap")), want)
		more := api.Method{Locals: make([]uint8, maxStack+beyond-100), Fuel: 200, Stack: 300, Code: sample.Code("100* const 0; trap")}
		compareError(t, with(more), want)
		compareError(t, coded("loop 51; const 0; new 20; pop; again 0; const 0; new "+strconv.Itoa(4+beyond)+"; trap"), want)
		compareError(t, coded("loop 2; call 1; pop; again 0; const 0; new "+strconv.Itoa(4+beyond)+"; trap", "const 0; new 510; trap"), want)
	}
	compareCerts(t, coded("call 1; ret", fueled(maxFuel-2)), api.Cert{Fuel: maxFuel, Stack: 1}, api.Cert{Fuel: maxFuel - 2, Stack: 1})
}

// All that is small, held against the chapter's words.
func TestSmall(t *testing.T) {
	fit, others := 0, 0
	for m := range small() {
		if _, e := compare(t, m); e == 0 {
			fit++
		} else {
			others++
		}
	}
	if fit < 1000 || others < 1000 {
		t.Errorf("%d fit, %d do not", fit, others)
	}
}

// Samples of all sorts, held against the chapter's words; and with a method's code in the place of another one's.
func TestGrown(t *testing.T) {
	errors := map[api.Errno]int{}
	for seed := range seeds {
		m := grown(seed)
		compare(t, m)
		d := dice(seed)
		a, b := d.below(len(m.Methods)), d.below(len(m.Methods))
		other := with(slices.Clone(m.Methods)...)
		other.Methods[a].Code = m.Methods[b].Code
		_, e := compare(t, other)
		errors[e]++
	}
	if errors[0] < 50 || errors[badType] < 20 || errors[badCycle] < 20 {
		t.Errorf("%v", errors)
	}
}
