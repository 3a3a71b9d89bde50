package machine_test

import (
	"slices"
	"testing"

	"capstan/api"
	"capstan/module"
	"capstan/sample"
	"capstan/verify"
)

// seeds is how many samples are made.
const seeds = 400

// sampled returns the question what a method of a module does, with some arguments and globals that it may be passed, at the greatest limits.
func sampled(m api.Module, k int, d *sample.Dice) question {
	q := question{m: m, method: k, limit: sample.Most()}
	for _, kind := range m.Methods[k].Args {
		q.args = append(q.args, d.Value(kind))
	}
	for _, v := range m.Globals {
		q.globals = append(q.globals, d.Value(v.Kind))
	}
	return q
}

// callable tells whether none of the arguments is an array: otherwise only another method can call this one.
func callable(x api.Method) bool { return !slices.Contains(x.Args, 3) }

// samples enumerates questions about methods of modules that are accepted.
func samples(yield func(q question, cert api.Cert) bool) {
	for seed := range seeds {
		d := sample.Dice(seed)
		m := sample.Module(seed)
		certs, _ := verify.Accept(m)
		for k, x := range m.Methods {
			for range 4 {
				if callable(x) && !yield(sampled(m, k, &d), certs[k]) {
					return
				}
			}
		}
	}
}

// altered returns m with up to three instructions changed.
func altered(m api.Module, d *sample.Dice) api.Module {
	m = module.Copy(m)
	for range 1 + d.Below(3) {
		alter(&m.Methods[d.Below(len(m.Methods))].Code, d)
	}
	return m
}

// alter changes one instruction of some code.
func alter(code *[]api.Instr, d *sample.Dice) {
	l := *code
	at := d.Below(len(l) + 1)
	switch n := d.Below(7); {
	case at == len(l) || n == 0:
		*code = slices.Insert(l, at, api.Instr{Op: uint8(d.Below(opcodes)), A: d.Below(9)})
	case n == 1:
		l[at].Op = uint8(d.Below(opcodes + 1))
	case n == 2:
		l[at].A += 1 - 2*d.Below(2)
	case n == 3:
		l[at].A = d.Below(12)
	case n == 4:
		l[at].A = sample.Pick(d, wide)
	case n == 5 && len(l) > 1:
		*code = slices.Delete(l, at, at+1)
	default:
		l[at].B++
	}
}

// lower returns the question with lower limits.
func (q question) lower(d *sample.Dice) question {
	return q.limited(d.Below(200), d.Below(25), d.Below(40))
}

// TestSamples tells what the samples are: methods that are accepted, others that are altered, and both with lower limits.
func TestSamples(t *testing.T) {
	d := sample.Dice(1)
	errors, numbers := map[api.Errno]int{}, map[int]int{}
	for q := range samples {
		compareOK(t, q)
		changed := q
		for range 6 {
			changed.m = altered(q.m, &d)
			got := compare(t, changed.limited(5000, 256, 1024))
			errors[got.e]++
			numbers[min(got.out.Trap, own)]++
			errors[compare(t, changed.lower(&d)).e]++
		}
	}
	for _, e := range []api.Errno{0, badFull, badOp, badStack, badFuel} {
		if errors[e] < 200 {
			t.Errorf("%d errors %d", errors[e], e)
		}
	}
	for _, number := range []int{0, byZero, noPlace, beyond, own} {
		if numbers[number] < 200 {
			t.Errorf("%d traps %d", numbers[number], number)
		}
	}
}

// letters are the instructions of which small methods are made: each opcode, with operands that exist and with some that do not.
const letters = "nop; const 0; const 1; const 2; const 3; const 4; const 5; get 0; get 1; get 2; get 3; set 0; set 1; set 2; set 3; load 0; load 1; load 2; store 0; store 1; store 2; pop; dup; swap; add; sub; mul; div; rem; less; same; pair; re; im; padd; pmul; conj; new 1; new 4; at; put; len; jump 0; jump 2; jump 4; jump 9; zero 0; zero 3; zero 9; loop 0; loop 2; again 0; again 1; call 0; call 1; call 2; call 9; ret; trap; trap -16; trap -17"

// P17.1: all methods of three instructions of those above, alone and behind others that push values.
func TestSmall(t *testing.T) {
	l := sample.Code(letters)
	for _, ahead := range []string{"", "const 1; const 1", "const 3; const 0; const 1", "const 2; const 2", "const 1; new 4; dup; const 0"} {
		q := asked([]api.Value{n(2)}, method("n", "pr", ahead), method("n", "", "get 0; load 0; add; store 0; get 0; ret"), pairing(method("", "r", "load 1; ret")))
		q.m.Pool = []api.Value{n(0), n(3), p(mostPart, -2), ref(1), {Kind: 1, B: 1}, n(-1)}
		at := len(sample.Code(ahead))
		code := slices.Concat(sample.Code(ahead), make([]api.Instr, 3), sample.Code("const 1; ret"))
		q.m.Methods[0].Code = code
		for _, first := range l {
			for _, second := range l {
				for k, third := range l {
					code[at], code[at+1], code[at+2] = first, second, third
					compare(t, q.limited(30, 10+k%3, 5))
				}
			}
		}
	}
}

// P3, P17.1: a call of an accepted method ends within its certificate, whatever it is passed.
func TestCertified(t *testing.T) {
	exact := 0
	for q, cert := range samples {
		want := q.ask()
		q.limit = cert
		if got := q.ask(); got.e != 0 || !got.same(want) {
			t.Fatalf("%v, not %v, of %v", got, want, q)
		}
		if want.used == cert {
			exact++
		}
	}
	if exact < 50 {
		t.Errorf("%d", exact)
	}
}

// P17.2: behind stores to globals, in the method and in those that it calls, a trap leaves the globals that were passed.
func TestTrapped(t *testing.T) {
	for _, end := range []struct {
		text   string
		number int
	}{{"trap", own}, {"trap 255", own + 255}, {"trap -15", byZero}, {"const 1; const 0; div", byZero}, {"const 1; const 0; rem", byZero}, {"const 1; new 0", noPlace}, {"const 13; const 0; at", noPlace}, {"const 13; const 0; const 0; put", noPlace}, {"const 15; len", noPlace}, {"const 16; const 0; pair", beyond}, {"const 18; dup; padd", beyond}, {"const 18; dup; pmul", beyond}} {
		storing := method("", "", "const 5; store 0; const 11; store 1; load 0; dup; add; store 0; const 0; ret")
		for _, l := range [][]api.Method{
			{method("", "", "const 5; store 0; "+end.text)},
			{method("", "", "const 11; store 1; "+end.text)},
			{method("", "", "const 5; store 0; const 11; store 1; const 6; store 0; "+end.text)},
			{method("", "", "loop 5; load 0; const 1; add; store 0; again 0; "+end.text)},
			{method("", "", "call 1; pop; "+end.text), storing},
			{method("", "", "const 5; store 0; call 1; ret"), method("", "", end.text)},
			{method("", "", "call 1; ret"), method("", "", "const 5; store 0; const 11; store 1; "+end.text)},
			{method("", "", "call 1; pop; call 2; ret"), storing, method("", "", "load 0; const 3; mul; store 0; "+end.text)},
			{method("", "", "const 4; store 0; call 1; ret"), method("", "n", "const 5; store 0; const 1; call 2; set 0; get 0; ret"), method("n", "", "const 11; store 1; get 0; store 0; "+end.text)},
		} {
			q := asked(nil, l...)
			q.m.Pool = append(q.m.Pool, p(mostPart, 2))
			got := compare(t, q)
			if got.e != 0 || got.out != (api.Outcome{Trap: end.number}) || !slices.Equal(got.after, []api.Value{n(10), p(3, -4)}) {
				t.Errorf("%v, not the trap %d, of %v", got, end.number, q)
			}
		}
	}
}

// P17.2: the same of samples that trap.
func TestTrappedSamples(t *testing.T) {
	stored := 0
	for q := range samples {
		got := q.ask()
		if got.out.Trap == 0 {
			continue
		}
		if !slices.Equal(got.after, q.globals) || got.out.Result != (api.Value{}) {
			t.Fatalf("%v of %v", got, q)
		}
		if slices.ContainsFunc(q.m.Methods[q.method].Code, func(i api.Instr) bool { return i.Op == api.OpStore }) {
			stored++
		}
	}
	if stored < 50 {
		t.Errorf("%d", stored)
	}
}

// told holds what a question with an outcome is to be answered at other limits, and tells whether it is one.
func told(t *testing.T, q question) bool {
	t.Helper()
	want := q.ask()
	if want.e != 0 {
		return false
	}
	hold := func(fuel, stack, heap int, want answer) {
		t.Helper()
		if got := q.limited(fuel, stack, heap).ask(); !got.same(want) {
			t.Fatalf("%v, not %v, with %d %d %d of %v", got, want, fuel, stack, heap, q)
		}
	}
	c := want.used
	// P17.5: what it uses is enough, and with less fuel it is not.
	hold(c.Fuel, c.Stack, c.Heap, want)
	for _, fuel := range []int{0, 1, c.Fuel / 2, c.Fuel - 2, c.Fuel - 1} {
		if fuel >= 0 && fuel < c.Fuel {
			hold(fuel, c.Stack, c.Heap, answer{e: badFuel})
			hold(fuel, mostStack, mostHeap, answer{e: badFuel})
		}
	}
	// Nor is less stack or heap.
	for _, stack := range []int{0, c.Stack / 2, c.Stack - 1} {
		if stack >= 0 && stack < c.Stack {
			hold(mostFuel, stack, mostHeap, answer{e: badStack})
		}
	}
	for _, heap := range []int{0, c.Heap / 2, c.Heap - 1} {
		if heap >= 0 && heap < c.Heap {
			hold(mostFuel, mostStack, heap, answer{e: badFull})
		}
	}
	// P17.3: greater limits change nothing.
	for _, more := range []api.Cert{{Fuel: 1}, {Stack: 1}, {Heap: 1}, {Fuel: 1, Stack: 1, Heap: 1}, {Fuel: 1000, Stack: 9, Heap: 99}, {Fuel: mostFuel}, {Stack: mostStack}, {Heap: mostHeap}, {Fuel: mostFuel, Stack: mostStack, Heap: mostHeap}} {
		hold(min(c.Fuel+more.Fuel, mostFuel), min(c.Stack+more.Stack, mostStack), min(c.Heap+more.Heap, mostHeap), want)
	}
	return true
}

// handmade are questions with outcomes and without, of several sorts.
func handmade() []question {
	l := []question{adding(), of(1, api.Instr{Op: api.OpDiv}, n(7), n(2)), of(1, api.Instr{Op: api.OpDiv}, n(7), n(0))}
	for _, text := range []string{
		"const 3; ret", "trap", "trap 9", "256* const 1; ret", "255* const 1; 254* add; ret", "loop 100; loop 90; const 1; pop; again 1; again 0; const 1; ret",
		"const 9; new 9; pop; const 8; new 9; len; ret", "loop 50; const 9; new 9; pop; again 0; trap", "const 9; new 9; const 9; at; ret", "const 9; new 8; len; ret",
		"const 5; store 0; const 11; store 1; load 0; ret", "const 5; store 0; load 1; dup; pmul; store 1; trap 3", "const 7; const 5; call 1; load 0; add; store 0; load 0; ret", "const 0; const 1; call 1; ret", "call 2; ret",
		"", "pop", "jump 0", "const 16; store 0; nop", "const 5; store 0; ret", "const 3; const 1", "const 9; new 9; call 0",
	} {
		l = append(l, asked(nil, method("", "", text), method("nn", "r", "get 1; get 0; div; dup; store 0; get 0; new 20; set 2; get 2; len; add; ret"), method("", "", counting)))
	}
	return l
}

// P17.3, P17.5: calls again with what they used, with less and with more.
func TestOtherLimits(t *testing.T) {
	outcomes := 0
	for _, q := range handmade() {
		if told(t, q) {
			outcomes++
		}
	}
	if outcomes < 16 {
		t.Errorf("%d", outcomes)
	}
	d := sample.Dice(2)
	for q := range samples {
		told(t, q)
		q.m = altered(q.m, &d)
		told(t, q.limited(5000, 256, 1024))
	}
}

// P17.5: each number of fuel below what is used.
func TestEachFuel(t *testing.T) {
	for _, q := range handmade() {
		want := q.ask()
		for fuel := range min(want.used.Fuel, 1200) {
			fails(t, q.limited(fuel, want.used.Stack, want.used.Heap), badFuel)
		}
	}
}

// P17.4: the same call has the same answer, again and again, whatever is called between.
func TestAgainSame(t *testing.T) {
	var l []question
	var first []answer
	d := sample.Dice(3)
	for q := range samples {
		l = append(l, q)
		q.m = altered(q.m, &d)
		l = append(l, q.limited(5000, 256, 1024), q.lower(&d))
	}
	l = append(l, handmade()...)
	for _, q := range l {
		first = append(first, q.ask())
	}
	for k, q := range slices.Backward(l) {
		for range 2 {
			if got := q.ask(); !got.same(first[k]) {
				t.Fatalf("%v, and then %v, of %v", first[k], got, q)
			}
		}
	}
}
