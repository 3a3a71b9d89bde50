package verify_test

import (
	"bytes"
	"slices"
	"testing"

	"capstan/api"
	"capstan/module"
	"capstan/sample"
	"capstan/verify"
)

// answer is what all functions return for a module, and Load for its encoding.
type answer struct {
	errors []api.Errno
	blamed int
	certs  []api.Cert
	loaded api.Module
	others []api.Cert // of what was loaded
}

// ask returns what all functions return for m, and Load for b.
func ask(m api.Module, b []byte) answer {
	a := answer{blamed: verify.Blame(m)}
	certs, e := verify.Accept(m)
	loaded, others, other := verify.Load(b)
	a.certs, a.loaded, a.others, a.errors = certs, loaded, others, []api.Errno{verify.May(m), e, other}
	return a
}

// copied returns an equal answer in memory of its own.
func (a answer) copied() answer {
	return answer{slices.Clone(a.errors), a.blamed, slices.Clone(a.certs), module.Copy(a.loaded), slices.Clone(a.others)}
}

// same tells whether two answers are equal.
func (a answer) same(b answer) bool {
	return slices.Equal(a.errors, b.errors) && a.blamed == b.blamed && slices.Equal(a.certs, b.certs) && module.Same(a.loaded, b.loaded) && slices.Equal(a.others, b.others)
}

// spoil writes something else into all memory of the answer.
func (a answer) spoil() {
	sample.Spoil(a.certs, api.Cert{Fuel: -7, Stack: 99, Heap: 98})
	sample.SpoilModule(a.loaded)
	sample.Spoil(a.others, api.Cert{Fuel: 97, Stack: -96, Heap: 95})
}

// question is a module, and bytes: its encoding, where it has one.
type question struct {
	m api.Module
	b []byte
}

// questionOf returns the question about m.
func questionOf(m api.Module) question {
	b, _ := module.Bytes(m)
	return question{m, b}
}

// questions returns questions about modules with errors and without.
func questions() []question {
	var l []question
	for _, m := range []api.Module{{}, {Migrate: -1}, with(), small(), sound(), sample.Open(sound())} {
		l = append(l, questionOf(m))
	}
	for _, f := range faults() {
		for _, k := range places() {
			l = append(l, questionOf(changed(sound(), func(m *api.Module) { f.in(m, k) })))
		}
	}
	for seed := range 60 {
		d := sample.Dice(seed)
		m := sample.Module(seed)
		l = append(l, questionOf(m), questionOf(altered(m, &d)))
	}
	return l
}

// What is passed stays as it was, and so does what stands behind its lists; the answer does not hang on that.
func TestPassed(t *testing.T) {
	for _, q := range questions() {
		want := ask(q.m, q.b)
		m, b := sample.Twin(q.m), sample.Roomy(q.b, 1, 2, 3)
		kept, bytesKept := module.Copy(sample.Whole(m)), bytes.Clone(b[:cap(b)])
		if got := ask(m, b); !got.same(want) {
			t.Errorf("%v, not %v, of %v", got, want, q.m)
		}
		if !module.Same(sample.Whole(m), kept) {
			t.Fatalf("%v has changed, into %v", kept, sample.Whole(m))
		}
		if !bytes.Equal(b[:cap(b)], bytesKept) {
			t.Fatalf("%v has changed, into %v", bytesKept, b[:cap(b)])
		}
	}
}

// What is returned is the caller's own: writing into it changes neither what was passed nor a later answer.
func TestReturned(t *testing.T) {
	for _, q := range questions() {
		m, b := sample.Twin(q.m), sample.Roomy(q.b, 1, 2, 3)
		kept, bytesKept := module.Copy(sample.Whole(m)), bytes.Clone(b[:cap(b)])
		for range 2 {
			got := ask(m, b)
			want := got.copied()
			got.spoil()
			if !module.Same(sample.Whole(m), kept) || !bytes.Equal(b[:cap(b)], bytesKept) {
				t.Fatalf("%v has changed, into %v", kept, sample.Whole(m))
			}
			if got := ask(m, b); !got.same(want) {
				t.Fatalf("%v, and then %v, of %v", want, got, q.m)
			}
		}
	}
}

// A later change of what was passed does not change what was returned.
func TestKept(t *testing.T) {
	for _, q := range questions() {
		m, b := sample.Twin(q.m), sample.Roomy(q.b, 1, 2, 3)
		got := ask(m, b)
		want := got.copied()
		sample.SpoilModule(m)
		sample.Spoil(b, 99)
		if !got.same(want) {
			t.Fatalf("%v has changed, into %v", want, got)
		}
	}
}

// Two answers share no memory, nor do the lists of one.
func TestApart(t *testing.T) {
	for _, q := range questions() {
		first, second := ask(q.m, q.b), ask(q.m, q.b)
		want := second.copied()
		first.spoil()
		if !second.same(want) {
			t.Fatalf("%v has changed, into %v", want, second)
		}
		sample.Spoil(second.certs, api.Cert{Fuel: -1})
		if !slices.Equal(second.others, want.others) {
			t.Fatalf("%v has changed, into %v", want.others, second.others)
		}
		sample.Spoil(second.others, api.Cert{Fuel: -1})
		if !module.Same(second.loaded, want.loaded) {
			t.Fatalf("%v has changed, into %v", want.loaded, second.loaded)
		}
		holdListsApart(t, second.loaded)
	}
}

// holdListsApart holds whether a loaded module's own lists share no memory: writing into one changes no other.
func holdListsApart(t *testing.T, m api.Module) {
	t.Helper()
	want := module.Copy(m)
	hold := func() {
		if !module.Same(m, want) {
			t.Fatalf("%v has changed, into %v", want, m)
		}
	}
	sample.Spoil(m.Globals, api.Value{Kind: 9})
	m.Globals = want.Globals
	hold()
	sample.Spoil(m.Pool, api.Value{Kind: 9})
	m.Pool = want.Pool
	hold()
	for k := range m.Methods {
		x := &m.Methods[k]
		sample.Spoil(x.Args, 9)
		x.Args = want.Methods[k].Args
		hold()
		sample.Spoil(x.Locals, 9)
		x.Locals = want.Methods[k].Locals
		hold()
		sample.Spoil(x.Code, api.Instr{Op: 99})
		x.Code = want.Methods[k].Code
		hold()
	}
}

// A module whose lists are one memory is answered like any other.
func TestShared(t *testing.T) {
	values, kinds, code := sample.Values("nn"), sample.Kinds("nnn"), sample.Code("const 0; ret")
	x := api.Method{Args: kinds[:2], Locals: kinds[1:], Result: api.KdInt, Fuel: 2, Stack: 5, Code: code}
	m := api.Module{Globals: values, Pool: values[1:], Methods: []api.Method{x, x, x}, Migrate: 1}
	cert := api.Cert{Fuel: 2, Stack: 5}
	compareAccepted(t, m, cert, cert, cert)
	x.Stack = 4
	m.Methods[2] = x
	compareError(t, m, 5, badCost, -1)
}

// Nothing is kept from call to call: the same question has the same answer again, whatever was asked between.
func TestAgain(t *testing.T) {
	l := questions()
	var first []answer
	for _, q := range l {
		first = append(first, ask(q.m, q.b))
	}
	for k, q := range slices.Backward(l) {
		if got := ask(q.m, q.b); !got.same(first[k]) {
			t.Errorf("%v, and then %v, of %v", first[k], got, q.m)
		}
	}
}
