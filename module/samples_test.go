package module_test

import (
	"slices"
	"testing"

	"capstan/api"
	"capstan/code"
	"capstan/method"
	"capstan/octet"
	"capstan/op"
	"capstan/pool"
)

// The errors, as the chapters number them.
const (
	long      api.Errno = 3
	short     api.Errno = 10
	badValue  api.Errno = 30
	badOp     api.Errno = 40
	badPool   api.Errno = 60
	badMethod api.Errno = 70
	bad       api.Errno = 80
)

// number returns an integer as a value.
func number(n int64) api.Value { return api.Value{Kind: 1, A: n} }

// pair returns a pair as a value, valid or not.
func pair(a, b int64) api.Value { return api.Value{Kind: 2, A: a, B: b} }

// values returns n external values of both kinds, no two of them equal.
func values(n int) []api.Value {
	l := make([]api.Value, n)
	for i := range l {
		l[i] = number(int64(i) * 77)
		if i%3 == 1 {
			l[i] = pair(int64(i), -1<<20)
		}
	}
	return l
}

// strange returns values that are not external.
func strange() []api.Value {
	return []api.Value{{}, {Kind: 3}, {Kind: 3, A: 1}, {Kind: 4}, {Kind: 255, A: 7}, {Kind: 1, B: 1}, pair(1<<20+1, 0), pair(0, -1<<20-1)}
}

// nops returns so many instructions of one byte each.
func nops(n int) []api.Instr { return make([]api.Instr, n) }

// plain returns a method without arguments and locals; its header has 11 bytes.
func plain(code ...api.Instr) api.Method { return api.Method{Result: 1, Fuel: 2, Stack: 1, Code: code} }

// leaf returns the shortest method, number n of its kind.
func leaf(n int) api.Method { return plain(api.Instr{Op: api.OpTrap, A: n}) }

// leaves returns n methods, no two of them equal.
func leaves(n int) []api.Method {
	l := make([]api.Method, n)
	for i := range l {
		l[i] = leaf(i)
	}
	return l
}

// rich returns a method with something in each part.
func rich() api.Method {
	return api.Method{
		Args: []uint8{1, 2, 3}, Locals: []uint8{2, 1}, Result: 2, Reads: true, Fuel: 0x030201, Stack: 255, Heap: 1024,
		Code: []api.Instr{{Op: api.OpConst, A: 1}, {Op: api.OpPop}, {Op: api.OpNew, A: 513}, {Op: api.OpTrap, A: 255}},
	}
}

// small is the chapter's example.
func small() api.Module {
	return api.Module{
		Globals: []api.Value{number(0)}, Migrate: -1,
		Methods: []api.Method{{Result: 1, Fuel: 2, Stack: 1, Code: []api.Instr{{Op: api.OpLoad}, {Op: api.OpRet}}}},
	}
}

// smallBytes is the encoding of the chapter's example.
func smallBytes() []byte {
	return []byte{1, 1, 0, 0, 0, 0, 0, 0, 0, 0, 0, 1, 0, 0, 1, 0, 2, 0, 0, 1, 0, 0, 0, 2, 4, 0, 0, 31, 255}
}

// full returns a module with something in each part.
func full() api.Module {
	return api.Module{Globals: values(4), Pool: values(7), Methods: []api.Method{leaf(7), rich(), small().Methods[0]}, Migrate: 1}
}

// wide returns n instructions of three bytes each.
func wide(n int) []api.Instr { return slices.Repeat([]api.Instr{{Op: api.OpNew, A: 258}}, n) }

// padded returns m with methods behind its own, so that its encoding has n bytes.
func padded(m api.Module, n int) api.Module {
	m.Methods = slices.Clone(m.Methods)
	lack := n - len(encoded(m))
	for lack > 12+200 {
		// What remains is to be enough for one method more.
		k := min(200, (lack-12-13)/3)
		m.Methods = append(m.Methods, plain(wide(k)...))
		lack -= 12 + 3*k
	}
	m.Methods = append(m.Methods, plain(nops(lack-12)...))
	return m
}

// ofSize returns modules of different parts whose encodings have n bytes, n about 2000.
func ofSize(n int) []api.Module {
	big := small()
	big.Pool = values(32)
	many := full()
	many.Methods, many.Migrate = append(leaves(8), rich()), 8
	return []api.Module{padded(api.Module{Migrate: -1}, n), padded(small(), n), padded(full(), n), padded(big, n), padded(many, n)}
}

// modules returns modules without a fault.
func modules() []api.Module {
	l := []api.Module{{Migrate: -1}, small(), full(), {Globals: []api.Value{}, Pool: []api.Value{}, Methods: []api.Method{}, Migrate: -1}}
	for n := range 5 {
		l = append(l, api.Module{Globals: values(n), Migrate: -1}, api.Module{Globals: values(n), Pool: values(5), Methods: leaves(2), Migrate: 1})
	}
	for _, n := range []int{1, 2, 4, 5, 31, 32} {
		l = append(l, api.Module{Pool: values(n), Migrate: -1}, api.Module{Globals: values(1), Pool: values(n), Methods: leaves(1), Migrate: 0})
	}
	for _, n := range []int{0, 1, 2, 3, 15, 16} {
		for migrate := -1; migrate < n; migrate++ {
			l = append(l, api.Module{Methods: leaves(n), Migrate: migrate})
		}
	}
	for n := range 4 {
		m := full()
		m.Methods = slices.Insert(leaves(3), n, rich())
		l = append(l, m)
	}
	for _, n := range []int{1, 2, 199, 200} {
		l = append(l, api.Module{Methods: []api.Method{plain(nops(n)...), rich(), plain(wide(n)...)}, Migrate: -1})
	}
	for op := range api.OpCount {
		m := full()
		m.Methods[2].Code = append(instructions(op), api.Instr{Op: api.OpRet})
		l = append(l, m)
	}
	return slices.Concat(l, ofSize(1999), ofSize(2000))
}

// instructions returns valid ones of an opcode, with operands at both ends and between.
func instructions(opcode uint8) []api.Instr {
	least, most := op.Bounds(opcode)
	return []api.Instr{{Op: opcode, A: least}, {Op: opcode, A: (least + most) / 2}, {Op: opcode, A: most}}
}

// word returns n as an integer of so many bytes, the least significant one first.
func word(width int, n int64) []byte {
	b := make([]byte, width)
	for i := range b {
		b[i] = byte(n >> (8 * i))
	}
	return b
}

// encodedPool returns by the chapters' own words the encoding of a pool.
func encodedPool(l []api.Value) []byte {
	b := []byte{byte(len(l))}
	for _, v := range l {
		b = append(b, v.Kind)
		if v.Kind == 1 {
			b = append(b, word(8, v.A)...)
			continue
		}
		b = append(append(b, word(3, v.A+1<<20)...), word(3, v.B+1<<20)...)
	}
	return b
}

// encodedHeader returns by the chapters' own words the encoding of a header.
func encodedHeader(m api.Method) []byte {
	reads := byte(0)
	if m.Reads {
		reads = 1
	}
	return slices.Concat([]byte{byte(len(m.Args))}, m.Args, []byte{byte(len(m.Locals))}, m.Locals,
		[]byte{m.Result, reads}, word(3, int64(m.Fuel)), word(2, int64(m.Stack)), word(2, int64(m.Heap)))
}

// encodedCode returns by the chapters' own words the encoding of code.
func encodedCode(l []api.Instr) []byte {
	b := []byte{byte(len(l))}
	for _, i := range l {
		b = append(b, i.Op)
		if _, most := op.Bounds(i.Op); most > 0 {
			b = append(b, word(2, int64(i.A))...)
		}
	}
	return b
}

// pieces returns the encodings of the parts of a module one by one: globals, constants, the number of methods, header and code of each, and the index of the migrating one.
func pieces(m api.Module) [][]byte {
	l := [][]byte{encodedPool(m.Globals), encodedPool(m.Pool), {byte(len(m.Methods))}}
	for _, x := range m.Methods {
		l = append(l, encodedHeader(x), encodedCode(x.Code))
	}
	last := byte(255)
	if m.Migrate >= 0 {
		last = byte(m.Migrate)
	}
	return append(l, []byte{last})
}

// encoded returns by the chapters' own words the encoding of a module, whatever its length.
func encoded(m api.Module) []byte { return slices.Concat(pieces(m)...) }

// faultOf returns by the chapter's own words the fault of a module.
func faultOf(m api.Module) api.Errno {
	switch n := len(m.Methods); {
	case len(m.Globals) > 4, n > 16, m.Migrate < -1, m.Migrate >= n:
		return bad
	case !pool.May(m.Globals), !pool.May(m.Pool):
		return badPool
	}
	for _, x := range m.Methods {
		switch {
		case !method.May(x):
			return badMethod
		case !code.May(x.Code):
			return badOp
		}
	}
	if len(encoded(m)) > 2000 {
		return long
	}
	return 0
}

// decoded returns by the chapter's own words what Parse is to return, given what the layers below read.
func decoded(b []byte) (api.Module, api.Errno) {
	none := api.Module{}
	if len(b) > 2000 {
		return none, long
	}
	var m api.Module
	var at, count int
	var e api.Errno
	if m.Globals, at, e = pool.Read(b, 0); e != 0 {
		return none, e
	}
	if len(m.Globals) > 4 {
		return none, bad
	}
	if m.Pool, at, e = pool.Read(b, at); e != 0 {
		return none, e
	}
	if count, at, e = octet.Get(b, at, 1); e != 0 {
		return none, e
	}
	if count > 16 {
		return none, bad
	}
	for range count {
		var x api.Method
		if x, at, e = method.Read(b, at); e != 0 {
			return none, e
		}
		if x.Code, at, e = code.Read(b, at); e != 0 {
			return none, e
		}
		m.Methods = append(m.Methods, x)
	}
	switch rest := b[at:]; {
	case len(rest) == 0:
		return none, short
	case len(rest) > 1, rest[0] != 255 && int(rest[0]) >= count:
		return none, bad
	case rest[0] == 255:
		m.Migrate = -1
	default:
		m.Migrate = int(rest[0])
	}
	return m, 0
}

// equalMethod tells whether two methods are, their code too; a nil slice equals an empty one.
func equalMethod(a, b api.Method) bool {
	return slices.Equal(a.Args, b.Args) && slices.Equal(a.Locals, b.Locals) && slices.Equal(a.Code, b.Code) &&
		a.Result == b.Result && a.Reads == b.Reads && a.Fuel == b.Fuel && a.Stack == b.Stack && a.Heap == b.Heap
}

// equal tells whether two modules are, code included; a nil slice equals an empty one.
func equal(a, b api.Module) bool {
	return slices.Equal(a.Globals, b.Globals) && slices.Equal(a.Pool, b.Pool) && slices.EqualFunc(a.Methods, b.Methods, equalMethod) && a.Migrate == b.Migrate
}

// twin returns a module equal to m in memory of its own; each of its slices has room behind it, which holds something else.
func twin(m api.Module) api.Module {
	m.Globals = append(slices.Clone(m.Globals), values(3)...)[:len(m.Globals)]
	m.Pool = append(slices.Clone(m.Pool), values(3)...)[:len(m.Pool)]
	m.Methods = append(slices.Clone(m.Methods), rich(), leaf(9))[:len(m.Methods)]
	for i, x := range m.Methods {
		x.Args = append(slices.Clone(x.Args), 9, 8, 7)[:len(x.Args)]
		x.Locals = append(slices.Clone(x.Locals), 6, 5)[:len(x.Locals)]
		x.Code = append(slices.Clone(x.Code), api.Instr{Op: 200, A: 9, B: 8})[:len(x.Code)]
		m.Methods[i] = x
	}
	return m
}

// spoilt returns what writes something else into all memory of l, capacity included.
func spoilt[T any](l []T, x T) func() {
	return func() {
		for i := range l[:cap(l)] {
			l[:cap(l)][i] = x
		}
	}
}

// spoilers returns what spoils the lists of m one by one, and at last the list of methods itself.
func spoilers(m api.Module) []func() {
	l := []func(){spoilt(m.Globals, api.Value{Kind: 77, A: 77, B: 77}), spoilt(m.Pool, api.Value{Kind: 78, A: 78, B: 78})}
	for _, x := range m.Methods {
		l = append(l, spoilt(x.Args, 79), spoilt(x.Locals, 80), spoilt(x.Code, api.Instr{Op: 81, A: 81, B: 81}))
	}
	return append(l, spoilt(m.Methods, api.Method{Args: []uint8{82}, Fuel: 82}))
}

// spoil writes something else into all memory of m.
func spoil(m api.Module) {
	for _, write := range spoilers(m) {
		write()
	}
}

// repeated returns a module in which lists are equal, and share memory where they may.
func repeated() api.Module {
	m := full()
	m.Pool = m.Globals
	x := rich()
	x.Args = []uint8{1, 2}
	x.Locals = x.Args
	m.Methods = slices.Repeat([]api.Method{x}, 4)
	return m
}

// changed returns a copy of m in which change has been made.
func changed(m api.Module, change func(m *api.Module)) api.Module {
	m = twin(m)
	change(&m)
	return m
}

// The modules of these tests are what they are said to be.
func TestModules(t *testing.T) {
	if api.MaxGlobals != 4 || api.MaxMethods != 16 || api.MaxBytes != 2000 || api.ErrModule != bad || api.ErrLong != long || api.ErrShort != short {
		t.Error("api has other numbers")
	}
	if api.ErrPool != badPool || api.ErrMethod != badMethod || api.ErrOp != badOp || api.ErrValue != badValue {
		t.Error("api has other errors")
	}
	for i, m := range modules() {
		if e := faultOf(m); e != 0 {
			t.Errorf("module %d has the fault %d", i, e)
		}
		if !equal(m, twin(m)) {
			t.Errorf("module %d has another twin", i)
		}
	}
	for n := 1990; n < 2010; n++ {
		for i, m := range ofSize(n) {
			over := faultOf(m)
			if len(encoded(m)) != n || over != 0 && n <= 2000 || over != long && n > 2000 {
				t.Errorf("%d: a module of %d bytes, not %d, with the fault %d", i, len(encoded(m)), n, over)
			}
		}
	}
}
