package cost_test

import (
	"slices"
	"testing"

	"capstan/api"
	"capstan/cost"
	"capstan/module"
	"capstan/sample"
)

// modules returns modules with errors and without.
func modules() []api.Module {
	l := []api.Module{{}, with(), sound(), coded("call 1; ret", fueled(maxFuel-2)), coded("call 1; ret", fueled(maxFuel))}
	for _, f := range faults() {
		for k := range 5 {
			m := sound()
			f.in(m, k)
			l = append(l, m)
		}
	}
	for seed := range 40 {
		l = append(l, grown(seed))
	}
	return l
}

// What is passed stays as it was, and so does what stands behind its lists; the answer does not hang on that.
func TestPassed(t *testing.T) {
	for _, m := range modules() {
		want, e := cost.Costs(m)
		passed := sample.Twin(m)
		kept := sample.Twin(sample.Whole(passed))
		certs, got := cost.Costs(passed)
		if other := cost.Check(passed); !slices.Equal(certs, want) || got != e || other != e {
			t.Errorf("%v %d %d, not %v %d, of %v", certs, got, other, want, e, m)
		}
		for k, x := range passed.Methods {
			cost.Fits(api.Cert{Fuel: k}, x)
		}
		if !module.Same(sample.Whole(passed), kept) {
			t.Fatalf("%v has changed, into %v", kept, sample.Whole(passed))
		}
	}
}

// What is returned is the caller's own: writing into it changes neither what was passed nor a later answer, and a later change of what was passed does not change it.
func TestReturned(t *testing.T) {
	for _, m := range modules() {
		passed := sample.Twin(m)
		kept := sample.Twin(sample.Whole(passed))
		certs, e := cost.Costs(passed)
		want := slices.Clone(certs)
		sample.Spoil(certs, api.Cert{Fuel: -7, Stack: 99, Heap: 98})
		if !module.Same(sample.Whole(passed), kept) {
			t.Fatalf("%v has changed, into %v", kept, sample.Whole(passed))
		}
		certs, got := cost.Costs(passed)
		if !slices.Equal(certs, want) || got != e {
			t.Fatalf("%v %d, and then %v %d, of %v", want, e, certs, got, m)
		}
		another, _ := cost.Costs(passed)
		sample.Spoil(another, api.Cert{Fuel: 1})
		for _, x := range passed.Methods {
			sample.Spoil(x.Args, 9)
			sample.Spoil(x.Locals, 9)
			sample.Spoil(x.Code, api.Instr{Op: 9})
		}
		sample.Spoil(passed.Methods, api.Method{Fuel: 9})
		if !slices.Equal(certs, want) {
			t.Fatalf("%v has changed, into %v", want, certs)
		}
	}
}

// Nothing is kept from call to call: the same module has the same answer again, whatever was asked between.
func TestAgain(t *testing.T) {
	l := modules()
	var first [][]api.Cert
	for _, m := range l {
		certs, _ := cost.Costs(m)
		first = append(first, certs)
	}
	for k, m := range slices.Backward(l) {
		if certs, e := cost.Costs(m); !slices.Equal(certs, first[k]) || cost.Check(m) != e {
			t.Errorf("%v, and then %v, of %v", first[k], certs, m)
		}
	}
}
