package calls_test

import (
	"slices"
	"testing"

	"capstan/api"
	"capstan/calls"
)

// twin returns a module equal to m in memory of its own; each of its slices has room behind it, which holds something else.
func twin(m api.Module) api.Module {
	m.Globals = append(slices.Clone(m.Globals), api.Value{Kind: 9}, api.Value{Kind: 8})[:len(m.Globals)]
	m.Pool = append(slices.Clone(m.Pool), api.Value{Kind: 7}, api.Value{Kind: 6})[:len(m.Pool)]
	m.Methods = append(slices.Clone(m.Methods), api.Method{Code: []api.Instr{call(0)}}, api.Method{Fuel: 7})[:len(m.Methods)]
	for k, x := range m.Methods {
		x.Args = append(slices.Clone(x.Args), 9, 8, 7)[:len(x.Args)]
		x.Locals = append(slices.Clone(x.Locals), 6, 5, 4)[:len(x.Locals)]
		x.Code = append(slices.Clone(x.Code), call(k), call(-7), call(0))[:len(x.Code)]
		m.Methods[k] = x
	}
	return m
}

// whole returns all memory of m, capacity included, as lists of their full length.
func whole(m api.Module) api.Module {
	m.Globals, m.Pool, m.Methods = m.Globals[:cap(m.Globals)], m.Pool[:cap(m.Pool)], slices.Clone(m.Methods[:cap(m.Methods)])
	for k, x := range m.Methods {
		x.Args, x.Locals, x.Code = x.Args[:cap(x.Args)], x.Locals[:cap(x.Locals)], x.Code[:cap(x.Code)]
		m.Methods[k] = x
	}
	return m
}

// equalMethod tells whether two methods are equal, code included.
func equalMethod(a, b api.Method) bool {
	return slices.Equal(a.Args, b.Args) && slices.Equal(a.Locals, b.Locals) && slices.Equal(a.Code, b.Code) &&
		a.Result == b.Result && a.Reads == b.Reads && a.Fuel == b.Fuel && a.Stack == b.Stack && a.Heap == b.Heap
}

// equal tells whether two modules are equal.
func equal(a, b api.Module) bool {
	return slices.Equal(a.Globals, b.Globals) && slices.Equal(a.Pool, b.Pool) && slices.EqualFunc(a.Methods, b.Methods, equalMethod) && a.Migrate == b.Migrate
}

// answers returns the lists that all functions return for m, each with its error in front.
func answers(m api.Module) [][]int {
	var l [][]int
	add := func(list []int, e api.Errno) { l = append(l, []int{int(e)}, list) }
	add(nil, calls.Check(m))
	add(calls.Order(m))
	add(calls.Deep(m))
	for k := -1; k <= len(m.Methods); k++ {
		add(calls.Whom(m, k))
		add(calls.Leads(m, k))
	}
	return l
}

// copied returns equal lists in memory of their own.
func copied(lists [][]int) [][]int {
	var l [][]int
	for _, x := range lists {
		l = append(l, slices.Clone(x))
	}
	return l
}

// spoil writes something else into all memory of l, capacity included.
func spoil(l []int) {
	l = l[:cap(l)]
	for i := range l {
		l[i] = -7 - i
	}
}

// same tells whether two lists of lists are equal.
func same(a, b [][]int) bool { return slices.EqualFunc(a, b, slices.Equal) }

// modules returns modules with errors and without, whose lists have no room behind them.
func modules() []api.Module {
	l := []api.Module{{}, coded(""), coded("ret; call 1; call 2; call 1; call 0", "call 2; ret", "trap"), coded("call 2; call 1; ret", "call 2; ret", "trap", "call 0; call 2; call 1; call 0")}
	for _, text := range []string{"0", "1; 0", "; 2; 3; 1", "1", "; -1", "0 7; 0", "3 2 1; 3 2; 3;", "; 0; 1 0; 2 1 0"} {
		l = append(l, calling(text))
	}
	for seed := range 60 {
		m := grown(seed)
		l = append(l, m, inserted(m, 0, 0, call(len(m.Methods)/2)), inserted(m, len(m.Methods)-1, 0, call(len(m.Methods))))
	}
	l = append(l, chain(40, 1), chain(40, -1))
	for k, m := range l {
		if len(m.Methods) > 0 {
			m.Methods[0].Args, m.Methods[0].Locals = []uint8{1, 2}, []uint8{3}
		}
		m.Globals, m.Pool = []api.Value{{Kind: 1, A: 5}}, []api.Value{{Kind: 2, A: 5, B: 6}}
		l[k] = m
	}
	return l
}

// What is passed stays as it was, and so does what stands behind its lists; the answer does not hang on that.
func TestPassed(t *testing.T) {
	for _, m := range modules() {
		passed := twin(m)
		kept := twin(whole(passed))
		want := answers(m)
		if got := answers(passed); !same(got, want) {
			t.Errorf("%v, not %v, of %v", got, want, m)
		}
		if !equal(whole(passed), kept) {
			t.Fatalf("%v has changed, into %v", kept, whole(passed))
		}
	}
}

// What is returned is the caller's own: writing into it changes neither what was passed nor a later answer, and a later change of what was passed does not change it.
func TestReturned(t *testing.T) {
	for _, m := range modules() {
		passed := twin(m)
		kept := twin(whole(passed))
		got := answers(passed)
		want := copied(got)
		for _, l := range got {
			spoil(l)
		}
		if !equal(whole(passed), kept) {
			t.Fatalf("%v has changed, into %v", kept, whole(passed))
		}
		got = answers(passed)
		if !same(got, want) {
			t.Fatalf("%v, and then %v, of %v", want, got, m)
		}
		for _, x := range passed.Methods {
			code := x.Code[:cap(x.Code)]
			for i := range code {
				code[i] = api.Instr{Op: 9, A: 9}
			}
		}
		clear(passed.Methods)
		if !same(got, want) {
			t.Fatalf("%v has changed, into %v", want, got)
		}
	}
}

// No two answers share memory: what is written into one, or appended to it, shows in no other.
func TestApart(t *testing.T) {
	for _, m := range modules() {
		got := answers(m)
		want := copied(got)
		for n := range got {
			spoil(got[n])
			_ = append(got[n], 98, 97)
			got[n] = slices.Clone(want[n])
			if !same(got, want) {
				t.Fatalf("%v has changed, into %v", want, got)
			}
		}
	}
}

// Nothing is kept from call to call: the same module has the same answers again, whatever was asked between.
func TestAgain(t *testing.T) {
	l := modules()
	var first [][][]int
	for _, m := range l {
		first = append(first, answers(m))
	}
	for k, m := range slices.Backward(l) {
		if got := answers(m); !same(got, first[k]) {
			t.Errorf("%v, and then %v, of %v", first[k], got, m)
		}
	}
}
