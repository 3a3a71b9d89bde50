package verify_test

import (
	"bytes"
	"iter"
	"slices"
	"strconv"
	"strings"
	"testing"

	"capstan/api"
	"capstan/calls"
	"capstan/cost"
	header "capstan/method"
	"capstan/module"
	"capstan/pure"
	"capstan/sample"
	"capstan/types"
	"capstan/verify"
)

// tiny yields modules of two methods, the first one with each code of up to two of some instructions ahead of its last one, with each way that Reads can be set, and with some method that migrates or none.
func tiny() iter.Seq[api.Module] {
	return func(yield func(api.Module) bool) {
		others := []api.Method{method("n", "", "get 0; ret"), method("", "r", "const 0; store 0; const 0; ret"), method("r", "n", "trap; call 0; trap"), plain("load 1; ret")}
		of := sample.Code("const 0; load 0; store 0; add; new 1000; call 0; call 1; jump 2; zero 3; loop 2; again 0")
		for n := range 3 {
			for l := range sequences(n, of) {
				for b := range 4 * len(others) {
					for _, last := range sample.Code("ret; trap") {
						x := plain("")
						x.Code, x.Reads, x.Fuel = append(slices.Clone(l), last), b&1 == 1, 5
						other := others[b>>2]
						other.Reads = b>>1&1 == 1
						m := with(x, other)
						m.Migrate = (b+n)%3 - 1
						if !yield(m) {
							return
						}
					}
				}
			}
		}
	}
}

// sequences yields all sequences of n of the instructions.
func sequences(n int, of []api.Instr) iter.Seq[[]api.Instr] {
	return func(yield func([]api.Instr) bool) {
		if n == 0 {
			yield(nil)
			return
		}
		for l := range sequences(n-1, of) {
			for _, i := range of {
				if !yield(append(slices.Clone(l), i)) {
					return
				}
			}
		}
	}
}

// faultless tells by the words of P14.4 whether m is to be accepted.
func faultless(m api.Module) bool {
	if module.May(m) != 0 || calls.Check(m) != 0 || cost.Check(m) != 0 || pure.Check(m) != 0 {
		return false
	}
	for k := range m.Methods {
		if types.Check(m, k) != 0 {
			return false
		}
	}
	return m.Migrate == -1 || header.Migrates(m.Methods[m.Migrate])
}

// P14.4: a module is accepted exactly if no part has an error.
func TestCompleteness(t *testing.T) {
	accepted, refused := 0, 0
	hold := func(m api.Module) {
		is := faultless(m)
		certs, e := verify.Accept(m)
		if (verify.May(m) == 0) != is || (e == 0) != is || is && len(certs) != len(m.Methods) {
			t.Fatalf("%v %d, of %v", certs, e, m)
		}
		if is {
			accepted++
		} else {
			refused++
		}
	}
	for m := range tiny() {
		hold(m)
	}
	for seed := range seeds {
		d := sample.Dice(seed)
		m := sample.Module(seed)
		for range 10 {
			hold(altered(m, &d))
		}
	}
	if accepted < 500 || refused < 3000 {
		t.Errorf("%d accepted, %d not", accepted, refused)
	}
}

// P14.1 to P14.3: the same small modules, held against the chapter's words.
func TestTiny(t *testing.T) {
	var found [7]int
	for m := range tiny() {
		found[compare(t, m).check]++
	}
	for check, n := range found {
		if n == 0 && check != 1 {
			t.Errorf("%d errors by check %d", n, check)
		}
	}
}

// holdRound holds whether m, which is accepted, is loaded from its encoding, and what was loaded is accepted.
func holdRound(t *testing.T, m api.Module) {
	t.Helper()
	certs, e := verify.Accept(m)
	if e != 0 {
		t.Fatalf("%d, of %v", e, m)
	}
	b := encoded(t, m)
	w, l, e := verify.Load(b)
	if e != 0 || !module.Same(w, m) || !slices.Equal(l, certs) {
		t.Fatalf("%v %v %d, not %v, of %v", w, l, e, certs, m)
	}
	again, e := verify.Accept(w)
	if e != 0 || verify.May(w) != 0 || verify.Blame(w) != -1 || !slices.Equal(again, certs) || !bytes.Equal(encoded(t, w), b) {
		t.Fatalf("%v %d, not %v, of %v", again, e, certs, w)
	}
}

// P14.5: what is accepted is loaded from its encoding, and what is loaded is accepted.
func TestRoundTrip(t *testing.T) {
	holdRound(t, small())
	holdRound(t, sound())
	holdRound(t, sample.Open(sound()))
	holdRound(t, with())
	holdRound(t, api.Module{Migrate: -1})
	for seed := range seeds {
		m := sample.Module(seed)
		holdRound(t, m)
		for k := -1; k < len(m.Methods); k++ {
			m.Migrate = k
			if k < 0 || header.Migrates(m.Methods[k]) {
				holdRound(t, m)
			}
		}
	}
	for m := range tiny() {
		if verify.May(m) == 0 {
			holdRound(t, m)
		}
	}
}

// pushing returns code that pushes values of these kinds in a module whose constants begin with an integer and a pair.
func pushing(kinds []uint8) string {
	var l strings.Builder
	for _, kind := range kinds {
		l.WriteString([]string{"", "const 0; ", "const 1; ", "const 0; new 9; "}[kind])
	}
	return l.String()
}

// calling returns a method that calls the methods before it, each once, with some arguments.
func calling(m api.Module, before ...int) api.Method {
	var l strings.Builder
	for _, k := range before {
		l.WriteString(pushing(m.Methods[k].Args) + "call " + strconv.Itoa(k) + "; pop; ")
	}
	return plain(l.String() + "const 0; ret")
}

// additions returns methods that have no error at the end of m, which is accepted with these certificates and whose constants begin with an integer and a pair: some that call nobody, one that calls each of the others, one that calls several, and one that changes nothing and calls those that are declared so. Those are not called that leave no heap for it.
func additions(m api.Module, certs []api.Cert) []api.Method {
	l := []api.Method{plain("trap"), method("npr", "npr", "get 0; ret"), reading(plain("const 0; ret")), plain("loop 100; loop 100; nop; again 1; again 0; trap"), plain("const 0; new 1024; len; ret")}
	var several, quiet []int
	heap := 0
	for k, x := range m.Methods {
		if certs[k].Heap > 900 {
			continue
		}
		l = append(l, calling(m, k))
		if heap += certs[k].Heap + 36; heap > api.MaxHeap {
			continue
		}
		several = append(several, k)
		if x.Reads {
			quiet = append(quiet, k)
		}
	}
	return append(l, calling(m, several...), reading(calling(m, quiet...)))
}

// holdAdded holds whether m with the method added is accepted, and the certificates of the others are as they were; the method may declare just what it takes, too.
func holdAdded(t *testing.T, m api.Module, x api.Method) {
	t.Helper()
	certs, e := verify.Accept(m)
	if e != 0 {
		t.Fatalf("%d, of %v", e, m)
	}
	n := len(certs)
	w := extended(m, x)
	l, e := verify.Accept(w)
	if e != 0 || len(l) != n+1 || !slices.Equal(l[:n], certs) {
		t.Fatalf("%v %d, not %v, of %v", l, e, certs, w)
	}
	compareAccepted(t, w, l...)
	w.Methods[n].Fuel, w.Methods[n].Stack, w.Methods[n].Heap = l[n].Fuel, l[n].Stack, l[n].Heap
	compareAccepted(t, w, l...)
	if !slices.Contains(x.Args, api.KdRef) {
		w.Migrate = n
		compareAccepted(t, w, l...)
	}
}

// holdAdditions holds what is told of m with each of its additions.
func holdAdditions(t *testing.T, m api.Module) {
	t.Helper()
	for _, x := range additions(m, judged(m).certs) {
		holdAdded(t, m, x)
	}
}

// P14.6: methods that call nobody, and that call those before them.
func TestAdded(t *testing.T) {
	holdAdditions(t, with())
	holdAdditions(t, sound())
	holdAdditions(t, sample.Open(sound()))
	holdAdditions(t, with(slices.Repeat([]api.Method{plain("trap")}, 15)...))
	for seed := range seeds / 6 {
		holdAdditions(t, sample.Module(seed))
	}
}

// P14.6: methods that would have an error alone are told, and blamed if the third check finds it; an added method that is the seventeenth is one too many.
func TestAddedFaults(t *testing.T) {
	for _, f := range slices.Concat(ofMethod(), ofTypes(), ofRest()) {
		for _, m := range []api.Module{sound(), sample.Open(sound())} {
			m = extended(m, plain("trap"))
			f.in(&m, 5)
			compareError(t, m, f.check, f.e, f.blamed(5))
		}
	}
	full := with(slices.Repeat([]api.Method{plain("trap")}, 16)...)
	compareAccepted(t, full, slices.Repeat([]api.Cert{{Fuel: 1}}, 16)...)
	compareError(t, extended(full, plain("trap")), 1, badModule, -1)
	compareError(t, extended(full, plain("nop")), 1, badModule, -1)
}

// P14.6: an added method that calls another one which takes too much to be called.
func TestAddedCosts(t *testing.T) {
	m := with(plain("const 0; new 1000; const 0; new 24; trap"), plain("199* load 0; trap"), method("nnnn", "nnnnnnnnnnnn", "41* load 0; call 1; trap"), plain("loop 100; loop 100; loop 100; again 2; again 1; again 0; trap"))
	compareAccepted(t, m, api.Cert{Fuel: 5, Stack: 2, Heap: 1024}, api.Cert{Fuel: 200, Stack: 199}, api.Cert{Fuel: 243, Stack: 256}, api.Cert{Fuel: 1020202})
	for k := range 3 {
		holdAdded(t, m, calling(m, k))
	}
	compareError(t, extended(m, plain("call 0; pop; const 0; new 1; trap")), 5, badCost, -1)
	compareError(t, extended(m, plain("load 0; 4* const 0; call 2; trap")), 5, badCost, -1)
	compareError(t, extended(m, plain("call 3; call 3; trap")), 5, badCost, -1)
}

// P14.6: an encoding that becomes just short enough, and one that becomes a byte too long.
func TestAddedLength(t *testing.T) {
	for _, text := range []string{"trap", "const 0; ret", "50* nop; call 0; ret", "load 0; pop; call 9; ret"} {
		m := with(slices.Repeat([]api.Method{plain("199* nop; trap")}, 8)...)
		for len(m.Methods) < 10 {
			m = extended(m, plain("20* nop; trap"))
		}
		room := api.MaxBytes - len(encoded(t, extended(m, plain(text))))
		for _, nops := range []int{room - 1, room, room + 1} {
			x := plain(strconv.Itoa(nops) + "* nop; " + text)
			w := extended(m, x)
			if nops > room {
				compareError(t, w, 1, badLong, -1)
				continue
			}
			if n := len(encoded(t, w)); n != api.MaxBytes+nops-room {
				t.Errorf("%d bytes", n)
			}
			holdAdded(t, m, x)
		}
	}
}

// noReads returns a copy of m in which Reads of the method k is false.
func noReads(m api.Module, k int) api.Module {
	return changed(m, func(m *api.Module) { m.Methods[k].Reads = false })
}

// called tells whether any method of m whose Reads is true calls the method k.
func called(m api.Module, k int) bool {
	return slices.ContainsFunc(m.Methods, func(x api.Method) bool {
		return x.Reads && slices.Contains(x.Code, api.Instr{Op: api.OpCall, A: k})
	})
}

// holdWeaker holds what is told of m, which is accepted, where it declares more.
func holdWeaker(t *testing.T, m api.Module) {
	t.Helper()
	certs, e := verify.Accept(m)
	if e != 0 {
		t.Fatalf("%d, of %v", e, m)
	}
	compareAccepted(t, sample.Open(m), certs...)
	one := module.Copy(m)
	for k := range m.Methods {
		for _, d := range declarations() {
			now := *d.of(&m.Methods[k])
			compareAccepted(t, declared(m, k, d, d.limit), certs...)
			if now == d.limit {
				compareError(t, declared(m, k, d, now+1), 1, badMethod, -1)
				continue
			}
			compareAccepted(t, declared(m, k, d, now+1), certs...)
			*d.of(&one.Methods[k]) = now + 1
		}
	}
	compareAccepted(t, one, certs...)
}

// holdReads holds what is told of m, which is accepted, where Reads of a method is false; it returns how often that is an error.
func holdReads(t *testing.T, m api.Module) int {
	t.Helper()
	certs, errors := judged(m).certs, 0
	for k := range m.Methods {
		if called(m, k) {
			compareError(t, noReads(m, k), 6, badPure, -1)
			errors++
		} else {
			compareAccepted(t, noReads(m, k), certs...)
		}
	}
	return errors
}

// P14.7: more that is declared, of each number of each method and of all.
func TestWeaker(t *testing.T) {
	holdWeaker(t, with())
	holdWeaker(t, small())
	holdWeaker(t, sound())
	for seed := range seeds / 6 {
		holdWeaker(t, sample.Module(seed))
	}
}

// P14.7: Reads made false for one method, and then for one after the other, till it is set for none: those that are called come behind all that call them.
func TestWeakerReads(t *testing.T) {
	errors, changes := holdReads(t, sound()), 0
	for seed := range seeds {
		m := sample.Module(seed)
		certs := judged(m).certs
		order, _ := calls.Order(m)
		for _, k := range slices.Backward(order) {
			if !m.Methods[k].Reads {
				continue
			}
			errors += holdReads(t, m)
			changes++
			m = noReads(m, k)
			compareAccepted(t, m, certs...)
		}
	}
	if errors < 200 || changes < 300 {
		t.Errorf("%d errors, %d changes", errors, changes)
	}
}
