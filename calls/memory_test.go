package calls_test

import (
	"slices"
	"testing"

	"capstan/api"
	"capstan/calls"
	"capstan/module"
	"capstan/sample"
)

// answers returns the lists that all functions return for m, each with its error in front.
func answers(m api.Module) [][]int {
	var l [][]int
	add := func(list []int, e api.Errno) { l = append(l, []int{int(e)}, list) }
	add(nil, calls.Check(m))
	add(calls.Order(m))
	add(calls.Deep(m))
	for k := -1; k <= len(m.Methods); k++ {
		add(calls.Whom(m, k))
		add(calls.Leads(m, k))
	}
	return l
}

// copied returns equal lists in memory of their own.
func copied(lists [][]int) [][]int {
	var l [][]int
	for _, x := range lists {
		l = append(l, slices.Clone(x))
	}
	return l
}

// same tells whether two lists of lists are equal.
func same(a, b [][]int) bool { return slices.EqualFunc(a, b, slices.Equal) }

// modules returns modules with errors and without, whose lists have no room behind them.
func modules() []api.Module {
	l := []api.Module{{}, coded(""), coded("ret; call 1; call 2; call 1; call 0", "call 2; ret", "trap"), coded("call 2; call 1; ret", "call 2; ret", "trap", "call 0; call 2; call 1; call 0")}
	for _, text := range []string{"0", "1; 0", "; 2; 3; 1", "1", "; -1", "0 7; 0", "3 2 1; 3 2; 3;", "; 0; 1 0; 2 1 0"} {
		l = append(l, calling(text))
	}
	for seed := range 60 {
		m := grown(seed)
		l = append(l, m, inserted(m, 0, 0, call(len(m.Methods)/2)), inserted(m, len(m.Methods)-1, 0, call(len(m.Methods))))
	}
	l = append(l, chain(40, 1), chain(40, -1))
	for k, m := range l {
		if len(m.Methods) > 0 {
			m.Methods[0].Args, m.Methods[0].Locals = []uint8{1, 2}, []uint8{3}
		}
		m.Globals, m.Pool = []api.Value{{Kind: 1, A: 5}}, []api.Value{{Kind: 2, A: 5, B: 6}}
		l[k] = m
	}
	return l
}

// What is passed stays as it was, and so does what stands behind its lists; the answer does not hang on that.
func TestPassed(t *testing.T) {
	for _, m := range modules() {
		passed := sample.Twin(m)
		kept := sample.Twin(sample.Whole(passed))
		want := answers(m)
		if got := answers(passed); !same(got, want) {
			t.Errorf("%v, not %v, of %v", got, want, m)
		}
		if !module.Same(sample.Whole(passed), kept) {
			t.Fatalf("%v has changed, into %v", kept, sample.Whole(passed))
		}
	}
}

// What is returned is the caller's own: writing into it changes neither what was passed nor a later answer, and a later change of what was passed does not change it.
func TestReturned(t *testing.T) {
	for _, m := range modules() {
		passed := sample.Twin(m)
		kept := sample.Twin(sample.Whole(passed))
		got := answers(passed)
		want := copied(got)
		for _, l := range got {
			sample.Spoil(l, -7)
		}
		if !module.Same(sample.Whole(passed), kept) {
			t.Fatalf("%v has changed, into %v", kept, sample.Whole(passed))
		}
		got = answers(passed)
		if !same(got, want) {
			t.Fatalf("%v, and then %v, of %v", want, got, m)
		}
		for _, x := range passed.Methods {
			sample.Spoil(x.Code, api.Instr{Op: 9, A: 9})
		}
		clear(passed.Methods)
		if !same(got, want) {
			t.Fatalf("%v has changed, into %v", want, got)
		}
	}
}

// No two answers share memory: what is written into one, or appended to it, shows in no other.
func TestApart(t *testing.T) {
	for _, m := range modules() {
		got := answers(m)
		want := copied(got)
		for n := range got {
			sample.Spoil(got[n], -7)
			_ = append(got[n], 98, 97)
			got[n] = slices.Clone(want[n])
			if !same(got, want) {
				t.Fatalf("%v has changed, into %v", want, got)
			}
		}
	}
}

// Nothing is kept from call to call: the same module has the same answers again, whatever was asked between.
func TestAgain(t *testing.T) {
	l := modules()
	var first [][][]int
	for _, m := range l {
		first = append(first, answers(m))
	}
	for k, m := range slices.Backward(l) {
		if got := answers(m); !same(got, first[k]) {
			t.Errorf("%v, and then %v, of %v", first[k], got, m)
		}
	}
}
