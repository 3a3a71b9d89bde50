package module_test

import (
	"slices"
	"testing"

	"capstan/api"
	"capstan/module"
)

// compareSame holds Same of a and b, both ways, against what it is to be.
func compareSame(t *testing.T, a, b api.Module, want bool) {
	t.Helper()
	if module.Same(a, b) != want || module.Same(b, a) != want {
		t.Errorf("Same is not %v, of %v and %v", want, a, b)
	}
}

// faultyModules returns modules with faults of all sorts.
func faultyModules() []api.Module {
	l := []api.Module{{}, {Migrate: 7}, {Migrate: -9}, {Globals: strange(), Pool: strange()}, {Globals: values(5), Pool: values(40), Methods: leaves(20)}}
	l = append(l, api.Module{Methods: badHeaders(), Migrate: -1}, changed(full(), func(m *api.Module) { m.Methods[2] = api.Method{} }))
	for _, c := range badCodes() {
		l = append(l, changed(full(), func(m *api.Module) { m.Methods[0].Code = c }))
	}
	return append(l, ofSize(2001)...)
}

// differences returns changes of full, each in one part alone.
func differences() []func(m *api.Module) {
	return slices.Concat(valueDifferences(func(m *api.Module) *[]api.Value { return &m.Globals }), valueDifferences(func(m *api.Module) *[]api.Value { return &m.Pool }), methodDifferences(), []func(m *api.Module){
		func(m *api.Module) { m.Migrate = -1 },
		func(m *api.Module) { m.Migrate = 0 },
		func(m *api.Module) { m.Migrate = 2 },
		func(m *api.Module) { m.Migrate += 1 << 32 },
		func(m *api.Module) { m.Globals, m.Pool = m.Pool, m.Globals },
		func(m *api.Module) {
			m.Pool = slices.Insert(m.Pool, 0, m.Globals[3])
			m.Globals = m.Globals[:3]
		},
	})
}

// valueDifferences returns changes of the values that list finds.
func valueDifferences(list func(m *api.Module) *[]api.Value) []func(m *api.Module) {
	var l []func(m *api.Module)
	for i := range 4 {
		for _, change := range []func(v *api.Value){
			func(v *api.Value) { v.A++ }, func(v *api.Value) { v.B-- }, func(v *api.Value) { v.Kind = 3 - v.Kind }, func(v *api.Value) { v.A += 1 << 40 }, func(v *api.Value) { *v = api.Value{} },
		} {
			l = append(l, func(m *api.Module) { change(&(*list(m))[i]) })
		}
	}
	return append(l,
		func(m *api.Module) { *list(m) = nil },
		func(m *api.Module) { *list(m) = (*list(m))[:3] },
		func(m *api.Module) { *list(m) = (*list(m))[1:] },
		func(m *api.Module) { *list(m) = append(*list(m), api.Value{}) },
		func(m *api.Module) { slices.Reverse(*list(m)) },
	)
}

// methodDifferences returns changes of the methods, each part of them among these.
func methodDifferences() []func(m *api.Module) {
	l := []func(m *api.Module){
		func(m *api.Module) { m.Methods = nil },
		func(m *api.Module) { m.Methods = m.Methods[:2] },
		func(m *api.Module) { m.Methods = m.Methods[1:] },
		func(m *api.Module) { m.Methods = append(m.Methods, m.Methods[2]) },
		func(m *api.Module) { m.Methods = append(m.Methods, api.Method{}) },
		func(m *api.Module) { slices.Reverse(m.Methods) },
		func(m *api.Module) {
			x := &m.Methods[1]
			x.Args, x.Locals = x.Args[:2], append([]uint8{3}, x.Locals...)
		},
	}
	for i := range 3 {
		for _, change := range []func(x *api.Method){
			func(x *api.Method) { x.Args = append(x.Args, 1) },
			func(x *api.Method) { x.Locals = append(x.Locals, 1) },
			func(x *api.Method) { x.Result = 3 - x.Result },
			func(x *api.Method) { x.Reads = !x.Reads },
			func(x *api.Method) { x.Fuel++ },
			func(x *api.Method) { x.Stack-- },
			func(x *api.Method) { x.Heap += 1 << 16 },
			func(x *api.Method) { x.Code = nil },
			func(x *api.Method) { x.Code = append(x.Code, api.Instr{}) },
			func(x *api.Method) { x.Code = append([]api.Instr{{}}, x.Code...) },
			func(x *api.Method) { x.Code[len(x.Code)-1].Op++ },
			func(x *api.Method) { x.Code[len(x.Code)-1].A++ },
			func(x *api.Method) { x.Code[0].B = -1 },
			func(x *api.Method) { x.Code[0].A += 1 << 32 },
		} {
			l = append(l, func(m *api.Module) { change(&m.Methods[i]) })
		}
	}
	return append(l,
		func(m *api.Module) { m.Methods[1].Args = nil },
		func(m *api.Module) { m.Methods[1].Args[2] = 1 },
		func(m *api.Module) { m.Methods[1].Args = m.Methods[1].Args[:2] },
		func(m *api.Module) { m.Methods[1].Locals = nil },
		func(m *api.Module) { m.Methods[1].Locals[0] = 77 },
		func(m *api.Module) { slices.Reverse(m.Methods[1].Locals) },
		func(m *api.Module) { m.Methods[1].Code = m.Methods[1].Code[:3] },
		func(m *api.Module) { slices.Reverse(m.Methods[1].Code) },
	)
}

// P8.3: modules are equal to themselves and to their twins, faults or not.
func TestSame(t *testing.T) {
	l := append(modules(), faultyModules()...)
	for i, a := range l {
		compareSame(t, a, a, true)
		compareSame(t, a, twin(a), true)
		for _, b := range l[:i] {
			compareSame(t, a, b, equal(a, b))
		}
	}
}

// P8.3: a difference in any part, however small.
func TestSameNot(t *testing.T) {
	for i, change := range differences() {
		other := changed(full(), change)
		if equal(other, full()) {
			t.Fatalf("%d is no difference", i)
		}
		compareSame(t, full(), other, false)
		compareSame(t, other, changed(full(), change), true)
		for _, another := range differences() {
			twice := changed(full(), another)
			compareSame(t, other, twice, equal(other, twice))
		}
	}
}

// P8.3: a nil slice equals an empty one, in each place.
func TestSameNil(t *testing.T) {
	bare := api.Module{Migrate: -1}
	method := api.Module{Methods: []api.Method{{Result: 1}}, Migrate: -1}
	for _, x := range []struct {
		m      api.Module
		change func(m *api.Module)
	}{
		{bare, func(m *api.Module) { m.Globals = []api.Value{} }},
		{bare, func(m *api.Module) { m.Pool = []api.Value{} }},
		{bare, func(m *api.Module) { m.Methods = []api.Method{} }},
		{method, func(m *api.Module) { m.Methods[0].Args = []uint8{} }},
		{method, func(m *api.Module) { m.Methods[0].Locals = []uint8{} }},
		{method, func(m *api.Module) { m.Methods[0].Code = []api.Instr{} }},
	} {
		empty := x.m
		empty.Methods = slices.Clone(empty.Methods)
		x.change(&empty)
		compareSame(t, x.m, empty, true)
		compareSame(t, x.m, twin(x.m), true)
		compareSame(t, module.Copy(x.m), empty, true)
		compareSame(t, x.m, module.Copy(empty), true)
		compareSame(t, module.Copy(empty), twin(x.m), true)
	}
}

// P8.3: a copy is equal, whether the module has a fault or not.
func TestCopy(t *testing.T) {
	for _, m := range append(append(modules(), faultyModules()...), repeated()) {
		for _, m := range []api.Module{m, twin(m)} {
			if c := module.Copy(m); !equal(c, m) || !module.Same(c, m) {
				t.Errorf("Copy(%v) = %v", m, c)
			}
		}
	}
}

// P8.3, P8.5: whatever is written into a copy does not change the original, nor what lies behind its lists.
func TestCopyApart(t *testing.T) {
	for _, m := range append(append(modules(), faultyModules()...), repeated()) {
		original := twin(m)
		for i := range spoilers(original) {
			spoilers(module.Copy(original))[i]()
		}
		spoil(module.Copy(original))
		if !equal(extended(original), extended(twin(m))) {
			t.Errorf("a copy of %v changes it", m)
		}
	}
}

// extended returns a module whose lists are those of m with what lies behind them.
func extended(m api.Module) api.Module {
	m.Globals, m.Pool = m.Globals[:cap(m.Globals)], m.Pool[:cap(m.Pool)]
	m.Methods = slices.Clone(m.Methods[:cap(m.Methods)])
	for i, x := range m.Methods {
		x.Args, x.Locals, x.Code = x.Args[:cap(x.Args)], x.Locals[:cap(x.Locals)], x.Code[:cap(x.Code)]
		m.Methods[i] = x
	}
	return m
}

// P8.3, P8.5: whatever is written into the original does not change a copy, nor another copy.
func TestOriginalApart(t *testing.T) {
	for _, m := range append(append(modules(), faultyModules()...), repeated()) {
		for i := range spoilers(m) {
			original := twin(m)
			one, two := module.Copy(original), module.Copy(original)
			spoilers(original)[i]()
			if !equal(one, m) || !equal(two, m) {
				t.Errorf("list %d of %v changes its copy", i, m)
			}
			spoil(one)
			if !equal(two, m) {
				t.Errorf("a copy of %v changes another", m)
			}
		}
	}
}

// Rules: no two lists of a copy share memory, though those of the original do.
func TestCopyLists(t *testing.T) {
	for _, m := range []api.Module{full(), repeated()} {
		for i := range spoilers(m) {
			got, want := module.Copy(m), twin(m)
			spoilers(got)[i]()
			spoilers(want)[i]()
			if !equal(got, want) {
				t.Errorf("list %d shares memory with another", i)
			}
		}
	}
}

// Rules: what is passed stays as it was, also what lies behind its lists.
func TestUnchanged(t *testing.T) {
	for _, m := range append(append(modules(), faultyModules()...), repeated()) {
		passed, other := twin(m), twin(full())
		module.May(passed)
		b, _ := module.Bytes(passed)
		module.Same(passed, other)
		module.Same(other, passed)
		module.Copy(passed)
		for i := range b[:cap(b)] {
			b[:cap(b)][i] = 99
		}
		if !equal(extended(passed), extended(twin(m))) || !equal(extended(other), extended(twin(full()))) {
			t.Errorf("%v was changed", m)
		}
	}
}
