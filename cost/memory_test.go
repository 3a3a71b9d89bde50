package cost_test

import (
	"slices"
	"testing"

	"capstan/api"
	"capstan/cost"
)

// twin returns a module equal to m in memory of its own; each of its slices has room behind it, which holds something else.
func twin(m api.Module) api.Module {
	m.Globals = append(slices.Clone(m.Globals), values("rpr")...)[:len(m.Globals)]
	m.Pool = append(slices.Clone(m.Pool), values("rpr")...)[:len(m.Pool)]
	m.Methods = append(slices.Clone(m.Methods), methodOf("n", "p", "trap"), api.Method{Fuel: 7})[:len(m.Methods)]
	for k, x := range m.Methods {
		x.Args = append(slices.Clone(x.Args), 9, 8, 7)[:len(x.Args)]
		x.Locals = append(slices.Clone(x.Locals), 6, 5, 4)[:len(x.Locals)]
		x.Code = append(slices.Clone(x.Code), written("new 9; call 0; trap")...)[:len(x.Code)]
		m.Methods[k] = x
	}
	return m
}

// whole returns all memory of m, capacity included, as lists of their full length.
func whole(m api.Module) api.Module {
	m.Globals, m.Pool, m.Methods = m.Globals[:cap(m.Globals)], m.Pool[:cap(m.Pool)], slices.Clone(m.Methods[:cap(m.Methods)])
	for k, x := range m.Methods {
		x.Args, x.Locals, x.Code = x.Args[:cap(x.Args)], x.Locals[:cap(x.Locals)], x.Code[:cap(x.Code)]
		m.Methods[k] = x
	}
	return m
}

// equalMethod tells whether two methods are equal, code included.
func equalMethod(a, b api.Method) bool {
	return slices.Equal(a.Args, b.Args) && slices.Equal(a.Locals, b.Locals) && slices.Equal(a.Code, b.Code) &&
		a.Result == b.Result && a.Reads == b.Reads && a.Fuel == b.Fuel && a.Stack == b.Stack && a.Heap == b.Heap
}

// equal tells whether two modules are equal.
func equal(a, b api.Module) bool {
	return slices.Equal(a.Globals, b.Globals) && slices.Equal(a.Pool, b.Pool) && slices.EqualFunc(a.Methods, b.Methods, equalMethod) && a.Migrate == b.Migrate
}

// spoil writes something else into all memory of l, capacity included.
func spoil[T any](l []T, x T) {
	l = l[:cap(l)]
	for i := range l {
		l[i] = x
	}
}

// modules returns modules with errors and without.
func modules() []api.Module {
	l := []api.Module{{}, with(), sound(), coded("call 1; ret", fueled(maxFuel-2)), coded("call 1; ret", fueled(maxFuel))}
	for _, f := range faults() {
		for k := range 5 {
			m := sound()
			f.in(m, k)
			l = append(l, m)
		}
	}
	for seed := range 40 {
		l = append(l, grown(seed))
	}
	return l
}

// What is passed stays as it was, and so does what stands behind its lists; the answer does not hang on that.
func TestPassed(t *testing.T) {
	for _, m := range modules() {
		want, e := cost.Costs(m)
		passed := twin(m)
		kept := twin(whole(passed))
		certs, got := cost.Costs(passed)
		if other := cost.Check(passed); !slices.Equal(certs, want) || got != e || other != e {
			t.Errorf("%v %d %d, not %v %d, of %v", certs, got, other, want, e, m)
		}
		for k, x := range passed.Methods {
			cost.Fits(api.Cert{Fuel: k}, x)
		}
		if !equal(whole(passed), kept) {
			t.Fatalf("%v has changed, into %v", kept, whole(passed))
		}
	}
}

// What is returned is the caller's own: writing into it changes neither what was passed nor a later answer, and a later change of what was passed does not change it.
func TestReturned(t *testing.T) {
	for _, m := range modules() {
		passed := twin(m)
		kept := twin(whole(passed))
		certs, e := cost.Costs(passed)
		want := slices.Clone(certs)
		spoil(certs, api.Cert{Fuel: -7, Stack: 99, Heap: 98})
		if !equal(whole(passed), kept) {
			t.Fatalf("%v has changed, into %v", kept, whole(passed))
		}
		certs, got := cost.Costs(passed)
		if !slices.Equal(certs, want) || got != e {
			t.Fatalf("%v %d, and then %v %d, of %v", want, e, certs, got, m)
		}
		another, _ := cost.Costs(passed)
		spoil(another, api.Cert{Fuel: 1})
		for _, x := range passed.Methods {
			spoil(x.Args, 9)
			spoil(x.Locals, 9)
			spoil(x.Code, api.Instr{Op: 9})
		}
		spoil(passed.Methods, api.Method{Fuel: 9})
		if !slices.Equal(certs, want) {
			t.Fatalf("%v has changed, into %v", want, certs)
		}
	}
}

// Nothing is kept from call to call: the same module has the same answer again, whatever was asked between.
func TestAgain(t *testing.T) {
	l := modules()
	var first [][]api.Cert
	for _, m := range l {
		certs, _ := cost.Costs(m)
		first = append(first, certs)
	}
	for k, m := range slices.Backward(l) {
		if certs, e := cost.Costs(m); !slices.Equal(certs, first[k]) || cost.Check(m) != e {
			t.Errorf("%v, and then %v, of %v", first[k], certs, m)
		}
	}
}
