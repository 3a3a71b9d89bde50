package pure_test

import (
	"slices"
	"testing"

	"capstan/api"
	"capstan/module"
	"capstan/pure"
)

// roomy returns an equal list in memory of its own, with room behind it that holds what is told.
func roomy[T any](l []T, behind ...T) []T {
	return append(slices.Clone(l), behind...)[:len(l)]
}

// twin returns a module equal to m in memory of its own; each of its slices has room behind it, which holds something else: methods that could be called, and code that stores and calls.
func twin(m api.Module) api.Module {
	m.Globals, m.Pool = roomy(m.Globals, api.Value{Kind: 9}, api.Value{Kind: 8}), roomy(m.Pool, api.Value{Kind: 7}, api.Value{Kind: 6})
	m.Methods = roomy(m.Methods, api.Method{Reads: true, Code: []api.Instr{store}}, api.Method{Fuel: 7})
	for k, x := range m.Methods {
		x.Args, x.Locals, x.Code = roomy(x.Args, 9, 8, 7), roomy(x.Locals, 6, 5, 4), roomy(x.Code, store, call(-7), call(0))
		m.Methods[k] = x
	}
	return m
}

// whole returns all memory of m, capacity included, as lists of their full length.
func whole(m api.Module) api.Module {
	m.Globals, m.Pool, m.Methods = m.Globals[:cap(m.Globals)], m.Pool[:cap(m.Pool)], slices.Clone(m.Methods[:cap(m.Methods)])
	for k, x := range m.Methods {
		x.Args, x.Locals, x.Code = x.Args[:cap(x.Args)], x.Locals[:cap(x.Locals)], x.Code[:cap(x.Code)]
		m.Methods[k] = x
	}
	return m
}

// spoil writes something else into all memory of l, capacity included.
func spoil[T any](l []T, x T) {
	l = l[:cap(l)]
	for i := range l {
		l[i] = x
	}
}

// spoilModule writes something else into all memory of m, capacity included.
func spoilModule(m api.Module) {
	spoil(m.Globals, api.Value{Kind: 99})
	spoil(m.Pool, api.Value{Kind: 98})
	for _, x := range m.Methods[:cap(m.Methods)] {
		spoil(x.Args, 97)
		spoil(x.Locals, 96)
		spoil(x.Code, api.Instr{Op: 95})
	}
	spoil(m.Methods, api.Method{Fuel: 94, Reads: true})
}

// answer is what all functions return for a module.
type answer struct {
	stores []bool
	pure   []bool
	said   api.Module
	errors []api.Errno
}

// ask returns what all functions return for m.
func ask(m api.Module) answer {
	var a answer
	for k := -1; k <= len(m.Methods); k++ {
		is, e := pure.Stores(m, k)
		a.stores, a.errors = append(a.stores, is), append(a.errors, e)
	}
	row, e := pure.Pure(m)
	said, other := pure.Say(m)
	a.pure, a.said, a.errors = row, said, append(a.errors, e, other, pure.Check(m))
	return a
}

// copied returns an equal answer in memory of its own.
func (a answer) copied() answer {
	return answer{slices.Clone(a.stores), slices.Clone(a.pure), module.Copy(a.said), slices.Clone(a.errors)}
}

// same tells whether two answers are equal.
func (a answer) same(b answer) bool {
	return slices.Equal(a.stores, b.stores) && slices.Equal(a.pure, b.pure) && module.Same(a.said, b.said) && slices.Equal(a.errors, b.errors)
}

// modules returns modules with errors and without.
func modules() []api.Module {
	l := []api.Module{{}, idle(1), idle(40)}
	for _, text := range []string{"s", "r s", "0", "1; 0", "r 1; r 2; s", "1; s; r", "; 2; 3; 1", "1", "r; -1", "s; 0 7; r 0", "3 2 1; 3 2; s 3;", "; 0; 1 0; 2 1 0 s"} {
		l = append(l, made(text))
	}
	for seed := range 100 {
		m := grown(seed)
		l = append(l, m, inserted(m, 0, 0, store), inserted(m, len(m.Methods)-1, 0, call(len(m.Methods))))
	}
	return append(l, linked(40, 1, false), linked(40, -1, true))
}

// What is passed stays as it was, and so does what stands behind its lists; the answer does not hang on that.
func TestPassed(t *testing.T) {
	for _, m := range modules() {
		want := ask(m)
		passed := twin(m)
		kept := twin(whole(passed))
		if got := ask(passed); !got.same(want) {
			t.Errorf("%v, not %v, of %v", got, want, m)
		}
		if !module.Same(whole(passed), kept) {
			t.Fatalf("%v has changed, into %v", kept, whole(passed))
		}
	}
}

// P13.3: what is returned is the caller's own: writing into it changes neither what was passed nor a later answer.
func TestReturned(t *testing.T) {
	for _, m := range modules() {
		passed := twin(m)
		kept := twin(whole(passed))
		got := ask(passed)
		want := got.copied()
		spoil(got.pure, true)
		spoilModule(got.said)
		if !module.Same(whole(passed), kept) {
			t.Fatalf("%v has changed, into %v", kept, whole(passed))
		}
		if got := ask(passed); !got.same(want) {
			t.Fatalf("%v, and then %v, of %v", want, got, m)
		}
		spoil(got.pure, false)
		if got := ask(passed); !got.same(want) {
			t.Fatalf("%v, and then %v, of %v", want, got, m)
		}
	}
}

// P13.3: a later change of what was passed does not change what was returned.
func TestKept(t *testing.T) {
	for _, m := range modules() {
		passed := twin(m)
		got := ask(passed)
		want := got.copied()
		spoilModule(passed)
		if !got.same(want) {
			t.Fatalf("%v has changed, into %v", want, got)
		}
	}
}

// P13.3: two answers share no memory, nor do an answer's own lists, even if those that were passed do.
func TestApart(t *testing.T) {
	for _, m := range modules() {
		first, second := ask(m), ask(m)
		want := second.copied()
		spoil(first.pure, true)
		spoilModule(first.said)
		if !second.same(want) {
			t.Fatalf("%v has changed, into %v", want, second)
		}
	}
	values, kinds, code := []api.Value{{Kind: 1}, {Kind: 2}}, []uint8{1, 2, 3}, []api.Instr{call(0), {Op: 9}}
	x := api.Method{Args: kinds[:2], Locals: kinds[1:], Code: code}
	m := api.Module{Globals: values, Pool: values[1:], Methods: []api.Method{x, x, x}}
	want := declared(m, []bool{true, true, true})
	w, e := pure.Say(m)
	if e != 0 || !module.Same(w, want) {
		t.Fatalf("%v %d", w, e)
	}
	spoil(w.Globals, api.Value{Kind: 9})
	for k := range 2 {
		spoil(w.Methods[k].Args, 9)
		spoil(w.Methods[k].Code, store)
	}
	spoil(w.Methods[2].Locals, 9)
	if !slices.Equal(w.Pool, want.Pool) || !slices.Equal(w.Methods[0].Locals, kinds[1:]) || !slices.Equal(w.Methods[2].Args, kinds[:2]) || !slices.Equal(w.Methods[2].Code, code) {
		t.Errorf("%v shares memory with itself", w)
	}
}

// Nothing is kept from call to call: the same module has the same answers again, whatever was asked between.
func TestAgain(t *testing.T) {
	l := modules()
	var first []answer
	for _, m := range l {
		first = append(first, ask(m))
	}
	for k, m := range slices.Backward(l) {
		if got := ask(m); !got.same(first[k]) {
			t.Errorf("%v, and then %v, of %v", first[k], got, m)
		}
	}
}
