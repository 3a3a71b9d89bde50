package cost_test

import (
	"math"
	"slices"
	"testing"

	"capstan/api"
	"capstan/cost"
	"capstan/sample"
)

// holdDeclared holds what is told of m where its methods declare just what was told, and less, and more.
func holdDeclared(t *testing.T, m api.Module) {
	t.Helper()
	certs := told(t, m)
	exact := sample.Declaring(m, certs...)
	if again, e := cost.Costs(exact); e != 0 || !slices.Equal(again, certs) || cost.Check(exact) != 0 {
		t.Fatalf("%v %d, not %v, of %v", again, e, certs, exact)
	}
	for k := range certs {
		if !cost.Fits(certs[k], exact.Methods[k]) {
			t.Fatalf("%v does not fit %v", certs[k], exact.Methods[k])
		}
		for n := range 3 {
			for _, by := range []int{1, 1 << 40} {
				less, other := sample.Declaring(exact), sample.Declaring(m)
				lessen(&less.Methods[k], n, by)
				other.Methods[k] = less.Methods[k]
				for _, x := range []api.Module{less, other} {
					if l, e := cost.Costs(x); e != badCost || len(l) > 0 || cost.Check(x) != badCost {
						t.Fatalf("%v %d, of %v", l, e, x)
					}
				}
				more := sample.Declaring(exact)
				lessen(&more.Methods[k], n, -by)
				if l, e := cost.Costs(more); e != 0 || !slices.Equal(l, certs) {
					t.Fatalf("%v %d, not %v, of %v", l, e, certs, more)
				}
			}
		}
	}
}

// P12.5: what is told declared, and told again; and less of anything.
func TestDeclared(t *testing.T) {
	holdDeclared(t, coded())
	holdDeclared(t, coded("trap"))
	holdDeclared(t, sound())
	holdDeclared(t, with(methodOf("n", "", "get 0; ret"), methodOf("", "", "loop 3; const 0; new 4; pop; again 0; const 0; ret"), methodOf("", "", "const 0; call 0; ret")))
	holdDeclared(t, coded("call 1; ret", fueled(maxFuel-2)))
	holdDeclared(t, coded("const 0; new 1024; trap"))
	for seed := range seeds / 6 {
		holdDeclared(t, grown(seed))
	}
}

// P12.5: nothing else that methods declare, and nothing that the module has beside its methods, changes what is told.
func TestDeclaredElse(t *testing.T) {
	for seed := range seeds / 4 {
		m := grown(seed)
		certs := told(t, m)
		other := sample.Declaring(m, slices.Repeat([]api.Cert{{Fuel: math.MaxInt, Stack: math.MaxInt, Heap: math.MaxInt}}, len(m.Methods))...)
		for k := range other.Methods {
			other.Methods[k].Reads = k%2 == seed%2
		}
		other.Migrate = 99
		other.Globals = append(slices.Clone(m.Globals), sample.Values("rrrrrr")...)
		if l, e := cost.Costs(other); e != 0 || !slices.Equal(l, certs) {
			t.Fatalf("%v %d, not %v, of %v", l, e, certs, other)
		}
	}
}
