package pure_test

import (
	"slices"
	"testing"

	"capstan/api"
	"capstan/module"
	"capstan/pure"
	"capstan/sample"
)

// answer is what all functions return for a module.
type answer struct {
	stores []bool
	pure   []bool
	said   api.Module
	errors []api.Errno
}

// ask returns what all functions return for m.
func ask(m api.Module) answer {
	var a answer
	for k := -1; k <= len(m.Methods); k++ {
		is, e := pure.Stores(m, k)
		a.stores, a.errors = append(a.stores, is), append(a.errors, e)
	}
	row, e := pure.Pure(m)
	said, other := pure.Say(m)
	a.pure, a.said, a.errors = row, said, append(a.errors, e, other, pure.Check(m))
	return a
}

// copied returns an equal answer in memory of its own.
func (a answer) copied() answer {
	return answer{slices.Clone(a.stores), slices.Clone(a.pure), module.Copy(a.said), slices.Clone(a.errors)}
}

// same tells whether two answers are equal.
func (a answer) same(b answer) bool {
	return slices.Equal(a.stores, b.stores) && slices.Equal(a.pure, b.pure) && module.Same(a.said, b.said) && slices.Equal(a.errors, b.errors)
}

// modules returns modules with errors and without.
func modules() []api.Module {
	l := []api.Module{{}, idle(1), idle(40)}
	for _, text := range []string{"s", "r s", "0", "1; 0", "r 1; r 2; s", "1; s; r", "; 2; 3; 1", "1", "r; -1", "s; 0 7; r 0", "3 2 1; 3 2; s 3;", "; 0; 1 0; 2 1 0 s"} {
		l = append(l, made(text))
	}
	for seed := range 100 {
		m := grown(seed)
		l = append(l, m, inserted(m, 0, 0, store), inserted(m, len(m.Methods)-1, 0, call(len(m.Methods))))
	}
	return append(l, linked(40, 1, false), linked(40, -1, true))
}

// What is passed stays as it was, and so does what stands behind its lists; the answer does not hang on that.
func TestPassed(t *testing.T) {
	for _, m := range modules() {
		want := ask(m)
		passed := sample.Twin(m)
		kept := sample.Twin(sample.Whole(passed))
		if got := ask(passed); !got.same(want) {
			t.Errorf("%v, not %v, of %v", got, want, m)
		}
		if !module.Same(sample.Whole(passed), kept) {
			t.Fatalf("%v has changed, into %v", kept, sample.Whole(passed))
		}
	}
}

// P13.3: what is returned is the caller's own: writing into it changes neither what was passed nor a later answer.
func TestReturned(t *testing.T) {
	for _, m := range modules() {
		passed := sample.Twin(m)
		kept := sample.Twin(sample.Whole(passed))
		got := ask(passed)
		want := got.copied()
		sample.Spoil(got.pure, true)
		sample.SpoilModule(got.said)
		if !module.Same(sample.Whole(passed), kept) {
			t.Fatalf("%v has changed, into %v", kept, sample.Whole(passed))
		}
		if got := ask(passed); !got.same(want) {
			t.Fatalf("%v, and then %v, of %v", want, got, m)
		}
		sample.Spoil(got.pure, false)
		if got := ask(passed); !got.same(want) {
			t.Fatalf("%v, and then %v, of %v", want, got, m)
		}
	}
}

// P13.3: a later change of what was passed does not change what was returned.
func TestKept(t *testing.T) {
	for _, m := range modules() {
		passed := sample.Twin(m)
		got := ask(passed)
		want := got.copied()
		sample.SpoilModule(passed)
		if !got.same(want) {
			t.Fatalf("%v has changed, into %v", want, got)
		}
	}
}

// P13.3: two answers share no memory, nor do an answer's own lists, even if those that were passed do.
func TestApart(t *testing.T) {
	for _, m := range modules() {
		first, second := ask(m), ask(m)
		want := second.copied()
		sample.Spoil(first.pure, true)
		sample.SpoilModule(first.said)
		if !second.same(want) {
			t.Fatalf("%v has changed, into %v", want, second)
		}
	}
	values, kinds, code := []api.Value{{Kind: 1}, {Kind: 2}}, []uint8{1, 2, 3}, []api.Instr{call(0), {Op: 9}}
	x := api.Method{Args: kinds[:2], Locals: kinds[1:], Code: code}
	m := api.Module{Globals: values, Pool: values[1:], Methods: []api.Method{x, x, x}}
	want := declared(m, []bool{true, true, true})
	w, e := pure.Say(m)
	if e != 0 || !module.Same(w, want) {
		t.Fatalf("%v %d", w, e)
	}
	sample.Spoil(w.Globals, api.Value{Kind: 9})
	for k := range 2 {
		sample.Spoil(w.Methods[k].Args, 9)
		sample.Spoil(w.Methods[k].Code, store)
	}
	sample.Spoil(w.Methods[2].Locals, 9)
	if !slices.Equal(w.Pool, want.Pool) || !slices.Equal(w.Methods[0].Locals, kinds[1:]) || !slices.Equal(w.Methods[2].Args, kinds[:2]) || !slices.Equal(w.Methods[2].Code, code) {
		t.Errorf("%v shares memory with itself", w)
	}
}

// Nothing is kept from call to call: the same module has the same answers again, whatever was asked between.
func TestAgain(t *testing.T) {
	l := modules()
	var first []answer
	for _, m := range l {
		first = append(first, ask(m))
	}
	for k, m := range slices.Backward(l) {
		if got := ask(m); !got.same(first[k]) {
			t.Errorf("%v, and then %v, of %v", first[k], got, m)
		}
	}
}
