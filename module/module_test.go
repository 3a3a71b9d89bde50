package module_test

import (
	"bytes"
	"math"
	"slices"
	"testing"

	"capstan/api"
	"capstan/module"
)

// fault is a change of a module, and the error that it makes.
type fault struct {
	change func(m *api.Module)
	e      api.Errno
}

// faulty returns m with all of these changes.
func faulty(m api.Module, faults ...fault) api.Module {
	m = twin(m)
	for _, x := range faults {
		x.change(&m)
	}
	return m
}

// compareFault holds May and Bytes of m against the fault that m is to have, or against its encoding.
func compareFault(t *testing.T, m api.Module, e api.Errno) {
	t.Helper()
	var want []byte
	if e == 0 {
		want = encoded(m)
	}
	if got := module.May(m); got != e {
		t.Errorf("May = %d, not %d, of %v", got, e, m)
	}
	if b, got := module.Bytes(m); got != e || !bytes.Equal(b, want) {
		t.Errorf("Bytes = %v, %d, not %d, of %v", b, got, e, m)
	}
}

// P8.1: the chapter's example.
func TestBytesExample(t *testing.T) {
	if b, e := module.Bytes(small()); !bytes.Equal(b, smallBytes()) || e != 0 {
		t.Errorf("Bytes = %v, %d", b, e)
	}
	if b, e := module.Bytes(api.Module{Migrate: -1}); !bytes.Equal(b, []byte{0, 0, 0, 255}) || e != 0 {
		t.Errorf("Bytes = %v, %d", b, e)
	}
}

// P8.1: the order of the parts, byte by byte.
func TestBytesOrder(t *testing.T) {
	m := api.Module{Globals: []api.Value{pair(1, 2)}, Pool: []api.Value{number(3), number(-1)}, Methods: []api.Method{leaf(9), rich()}, Migrate: 1}
	want := []byte{
		1, 2, 1, 0, 16, 2, 0, 16,
		2, 1, 3, 0, 0, 0, 0, 0, 0, 0, 1, 255, 255, 255, 255, 255, 255, 255, 255,
		2,
		0, 0, 1, 0, 2, 0, 0, 1, 0, 0, 0, 1, 32, 9, 0,
		3, 1, 2, 3, 2, 2, 1, 2, 1, 1, 2, 3, 255, 0, 0, 4, 4, 1, 1, 0, 6, 22, 1, 2, 32, 255, 0,
		1,
	}
	if b, e := module.Bytes(m); !bytes.Equal(b, want) || e != 0 {
		t.Errorf("Bytes = %v, %d, not %v", b, e, want)
	}
}

// P8.1: modules without a fault.
func TestMay(t *testing.T) {
	for _, m := range modules() {
		compareFault(t, m, 0)
		compareFault(t, twin(m), 0)
	}
}

// P8.1: up to 4 globals, with constants and methods or without; the more are ErrModule, though they are not a pool.
func TestGlobals(t *testing.T) {
	for _, n := range []int{0, 1, 3, 4, 5, 6, 31, 32, 33, 255, 256, 257, 260, 512} {
		e := bad
		if n <= 4 {
			e = 0
		}
		for _, m := range []api.Module{{Migrate: -1}, small(), full()} {
			compareFault(t, changed(m, func(m *api.Module) { m.Globals = values(n) }), e)
		}
		if e == 0 {
			e = badPool
		}
		compareFault(t, changed(full(), func(m *api.Module) { m.Globals = append(values(max(n, 1)-1), api.Value{}) }), e)
	}
}

// P8.1: up to 16 methods; the more are ErrModule, though their encoding is too long.
func TestMethods(t *testing.T) {
	for _, n := range []int{0, 1, 2, 15, 16, 17, 18, 32, 255, 256, 257, 272, 512} {
		e := bad
		if n <= 16 {
			e = 0
		}
		compareFault(t, api.Module{Methods: leaves(n), Migrate: -1}, e)
		compareFault(t, api.Module{Globals: values(4), Pool: values(32), Methods: leaves(n), Migrate: -1}, e)
	}
}

// P8.1: Migrate is -1 or the index of a method, and is encoded as 255 or as that index.
func TestMigrate(t *testing.T) {
	for _, n := range []int{0, 1, 2, 15, 16} {
		for _, migrate := range []int{-1, 0, 1, n - 1, n, n + 1, 15, 16, 17, -2, -3, 127, 128, 253, 254, 255, 256, 257, -128, -256, -255, -257, 1 << 16, 1 << 32, 1<<32 - 1, -1 << 32, math.MaxInt, math.MinInt, math.MinInt + 1} {
			m := api.Module{Globals: values(2), Methods: leaves(n), Migrate: migrate}
			e := bad
			if -1 <= migrate && migrate < n {
				e = 0
			}
			compareFault(t, m, e)
			b, _ := module.Bytes(m)
			if e == 0 && b[len(b)-1] != byte(migrate) {
				t.Errorf("%d of %d methods is encoded as %d", migrate, n, b[len(b)-1])
			}
		}
	}
}

// P8.1: globals and constants that are no pool, wherever the value stands that does not belong there.
func TestPools(t *testing.T) {
	for _, v := range strange() {
		for n := range 4 {
			for _, m := range []api.Module{small(), full()} {
				compareFault(t, changed(m, func(m *api.Module) { m.Globals = slices.Insert(values(3), n, v) }), badPool)
				compareFault(t, changed(m, func(m *api.Module) { m.Pool = slices.Insert(values(3), n, v) }), badPool)
			}
		}
		compareFault(t, api.Module{Globals: []api.Value{v}, Migrate: -1}, badPool)
		compareFault(t, api.Module{Pool: append(values(31), v), Migrate: -1}, badPool)
	}
	for _, n := range []int{33, 34, 255, 256, 257, 288, 1000} {
		compareFault(t, changed(full(), func(m *api.Module) { m.Pool = values(n) }), badPool)
	}
}

// badHeaders returns methods whose header is not valid, but whose code is.
func badHeaders() []api.Method {
	l := []api.Method{
		{}, {Result: 3}, {Result: 255}, {Result: 1, Args: []uint8{0}}, {Result: 1, Args: []uint8{4}}, {Result: 1, Args: make([]uint8, 5)}, {Result: 1, Args: []uint8{1, 1, 1, 1, 1}},
		{Result: 1, Locals: []uint8{0}}, {Result: 1, Locals: slices.Repeat([]uint8{1}, 17)}, {Result: 1, Args: []uint8{1}, Locals: slices.Repeat([]uint8{1}, 16)},
		{Result: 1, Fuel: -1}, {Result: 1, Fuel: 1<<20 + 1}, {Result: 1, Stack: -1}, {Result: 1, Stack: 257}, {Result: 1, Heap: -1}, {Result: 1, Heap: 1025},
	}
	for i := range l {
		l[i].Code = []api.Instr{{Op: api.OpRet}}
	}
	return l
}

// badCodes returns what is no code.
func badCodes() [][]api.Instr {
	return [][]api.Instr{
		nil, {}, nops(201), nops(256), nops(257), {{Op: 33}}, {{Op: 255}}, {{Op: api.OpRet, A: 1}}, {{Op: api.OpRet, B: 1}}, {{Op: api.OpConst, A: 32}}, {{Op: api.OpConst, A: -1}}, {{Op: api.OpLoad, A: 4}},
		{{Op: api.OpLoop}}, {{Op: api.OpLoop, A: 101}}, {{Op: api.OpRet}, {Op: api.OpCall, A: 16}}, {{Op: api.OpRet}, {Op: api.OpRet}, {Op: api.OpTrap, A: 256}},
	}
}

// headerFault makes the header of method n one that is not valid.
func headerFault(n int, x api.Method) fault {
	return fault{func(m *api.Module) {
		x.Code = m.Methods[n].Code
		m.Methods[n] = x
	}, badMethod}
}

// codeFault makes the code of method n something that is no code.
func codeFault(n int, l []api.Instr) fault {
	return fault{func(m *api.Module) { m.Methods[n].Code = l }, badOp}
}

// P8.1: headers that are not valid, and code that is none, at each method.
func TestEachMethod(t *testing.T) {
	for _, count := range []int{1, 2, 3, 16} {
		m := api.Module{Globals: values(1), Pool: values(2), Methods: leaves(count), Migrate: count - 1}
		for n := range count {
			for _, x := range badHeaders() {
				compareFault(t, faulty(m, headerFault(n, x)), badMethod)
			}
			for _, l := range badCodes() {
				compareFault(t, faulty(m, codeFault(n, l)), badOp)
			}
		}
	}
}

// P8.1: faults of methods are told in the order of the methods, and at each one that of the header first.
func TestMethodsOrder(t *testing.T) {
	m := api.Module{Methods: leaves(16), Migrate: -1}
	header, none := api.Method{Result: 3}, nops(0)
	for i := range 16 {
		for k := range 16 {
			want := badMethod
			if i < k {
				want = badOp
			}
			compareFault(t, faulty(m, codeFault(i, none), headerFault(k, header)), want)
			compareFault(t, faulty(m, codeFault(i, none), codeFault(k, none)), badOp)
			compareFault(t, faulty(m, headerFault(i, header), headerFault(k, header)), badMethod)
		}
	}
}

// P8.1: of faults that apply at once the first is told, whichever they are.
func TestFaultsOrder(t *testing.T) {
	faults := []fault{
		{func(m *api.Module) { m.Globals = append(m.Globals, values(5)...) }, bad},
		{func(m *api.Module) { m.Methods = append(m.Methods, leaves(17)...) }, bad},
		{func(m *api.Module) { m.Migrate = -2 }, bad},
		{func(m *api.Module) { m.Globals[0].Kind = 3 }, badPool},
		{func(m *api.Module) { m.Pool[1].B = 1 << 30 }, badPool},
		headerFault(0, api.Method{Result: 1, Fuel: -1}),
		codeFault(0, nops(201)),
		headerFault(1, api.Method{}),
		codeFault(1, nops(0)),
		{func(m *api.Module) {
			for len(m.Methods) < 10 {
				m.Methods = append(m.Methods, plain(wide(200)...))
			}
		}, long},
	}
	for set := range 1 << len(faults) {
		var these []fault
		var want api.Errno
		for i, x := range faults {
			if set>>i&1 == 0 {
				continue
			}
			these = append(these, x)
			if want == 0 {
				want = x.e
			}
		}
		compareFault(t, faulty(full(), these...), want)
	}
}

// P8.1: encodings of up to 2000 bytes, and of more; other faults are told ahead of ErrLong.
func TestLength(t *testing.T) {
	for _, n := range []int{1990, 1998, 1999, 2000, 2001, 2002, 2010, 2048, 2256} {
		e := long
		if n <= 2000 {
			e = 0
		}
		for _, m := range ofSize(n) {
			compareFault(t, m, e)
			last := len(m.Methods) - 1
			compareFault(t, faulty(m, codeFault(last, nops(0))), badOp)
			compareFault(t, faulty(m, headerFault(last, api.Method{})), badMethod)
			compareFault(t, changed(m, func(m *api.Module) { m.Pool = strange() }), badPool)
			compareFault(t, changed(m, func(m *api.Module) { m.Migrate = last + 1 }), bad)
		}
	}
	most := api.Module{Globals: values(4), Pool: values(32), Methods: slices.Repeat([]api.Method{plain(slices.Repeat([]api.Instr{{Op: api.OpNew}}, 200)...)}, 16), Migrate: 15}
	compareFault(t, most, long)
}

// P8.1: nil slices and empty ones are equivalent.
func TestNil(t *testing.T) {
	for _, m := range []api.Module{{Migrate: -1}, {}, {Methods: leaves(1)}, {Methods: []api.Method{{Result: 1}}, Migrate: -1}} {
		empty := twin(m)
		if empty.Globals == nil || empty.Pool == nil || empty.Methods == nil {
			t.Fatal("a twin has nil slices")
		}
		compareFault(t, m, faultOf(m))
		compareFault(t, empty, faultOf(m))
	}
	compareFault(t, api.Module{}, bad) // Migrate is 0, and there is no method
	compareFault(t, api.Module{Methods: []api.Method{{Result: 1}}}, badOp)
}

// Rules: the encodings of one module are memory of their own.
func TestBytesApart(t *testing.T) {
	for _, m := range modules() {
		one, _ := module.Bytes(m)
		two, _ := module.Bytes(m)
		clear(one[:cap(one)])
		if !bytes.Equal(two, encoded(m)) {
			t.Fatalf("Bytes of %v = %v", m, two)
		}
	}
}
