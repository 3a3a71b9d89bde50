package method_test

import (
	"bytes"
	"math"
	"slices"
	"testing"

	"capstan/api"
	"capstan/method"
	"capstan/value"
)

// What a method may declare at most, and the kinds, as the chapter has them.
const (
	mostFuel  = 1 << 20
	mostStack = 256
	mostHeap  = 1024

	integer uint8 = 1
	pair    uint8 = 2
	ref     uint8 = 3
)

// bad is the error of a header.
const bad api.Errno = 70

// cycle returns n kinds, from that one on in turn.
func cycle(n int, first uint8) []uint8 {
	l := make([]uint8, n)
	for i := range l {
		l[i] = (first-1+uint8(i))%3 + 1
	}
	return l
}

// simple returns a valid header with so many kinds.
func simple(args, locals int) api.Method {
	return api.Method{Args: cycle(args, integer), Locals: cycle(locals, pair), Result: integer, Reads: true, Fuel: 258, Stack: 3, Heap: 515}
}

// changed returns a copy of m in which change has been made.
func changed(m api.Method, change func(m *api.Method)) api.Method {
	m.Args, m.Locals = slices.Clone(m.Args), slices.Clone(m.Locals)
	change(&m)
	return m
}

// about returns numbers at both ends of a range from 0, one within and one beyond each, and such as have only their lower bytes within it.
func about(most int) []int {
	return []int{-1, 0, 1, 255, 256, 257, most - 1, most, most + 1, 1<<16 - 1, 1 << 16, 1<<16 + 1, 1 << 21, 1<<24 - 1, 1 << 24, 1<<24 + 1, 1 << 31, 1 << 32, 1<<32 + 1, -256, -most, -1 << 32, math.MinInt, math.MinInt + 1, math.MaxInt - 1, math.MaxInt}
}

// shapes returns valid headers of each pair of counts, with all kinds at all places.
func shapes() []api.Method {
	var l []api.Method
	for args := 0; args <= 4; args++ {
		for locals := 0; args+locals <= 16; locals++ {
			for first := integer; first <= ref; first++ {
				m := simple(args, locals)
				m.Args, m.Locals = cycle(args, first), cycle(locals, first%3+1)
				m.Result, m.Reads = first%2+1, (args+locals)%2 == 0
				l = append(l, m)
			}
		}
	}
	return l
}

// declared returns headers of one shape that declare all numbers about the ends, valid or not.
func declared() []api.Method {
	var l []api.Method
	for _, n := range about(mostFuel) {
		l = append(l, changed(simple(1, 1), func(m *api.Method) { m.Fuel = n }))
	}
	for _, n := range about(mostStack) {
		l = append(l, changed(simple(1, 1), func(m *api.Method) { m.Stack = n }))
	}
	for _, n := range about(mostHeap) {
		l = append(l, changed(simple(1, 1), func(m *api.Method) { m.Heap = n }))
	}
	for _, fuel := range []int{0, 1, mostFuel} {
		for _, stack := range []int{0, 1, mostStack} {
			for _, heap := range []int{0, 1, mostHeap} {
				l = append(l, api.Method{Result: pair, Fuel: fuel, Stack: stack, Heap: heap})
			}
		}
	}
	return l
}

// crowded returns headers with counts about their ends and beyond, valid or not.
func crowded() []api.Method {
	var l []api.Method
	for _, args := range []int{0, 1, 3, 4, 5, 6, 15, 16, 17, 255, 256, 257, 260, 512} {
		for _, locals := range []int{0, 1, 11, 12, 13, 14, 15, 16, 17, 18, 255, 256, 257, 268, 512} {
			l = append(l, simple(args, locals))
		}
	}
	return l
}

// kinded returns headers with each of 256 kinds at each place of shapes small and full, valid or not.
func kinded() []api.Method {
	var l []api.Method
	for _, m := range []api.Method{simple(0, 0), simple(1, 1), simple(4, 0), simple(0, 16), simple(4, 12)} {
		for k := range 256 {
			kind := uint8(k)
			l = append(l, changed(m, func(m *api.Method) { m.Result = kind }))
			for i := range m.Args {
				l = append(l, changed(m, func(m *api.Method) { m.Args[i] = kind }))
			}
			for i := range m.Locals {
				l = append(l, changed(m, func(m *api.Method) { m.Locals[i] = kind }))
			}
		}
	}
	return l
}

// all returns headers, valid and not.
func all() []api.Method {
	l := slices.Concat(shapes(), declared(), crowded(), kinded())
	return append(l, api.Method{}, api.Method{Result: integer}, api.Method{Result: pair, Reads: true}, api.Method{Fuel: 1}, api.Method{Reads: true})
}

// known tells whether all of these are kinds.
func known(l []uint8) bool {
	for _, kind := range l {
		if kind != integer && kind != pair && kind != ref {
			return false
		}
	}
	return true
}

// valid tells by the chapter's own words whether the header of m is.
func valid(m api.Method) bool {
	switch {
	case len(m.Args) > 4, len(m.Args)+len(m.Locals) > 16:
		return false
	case !known(m.Args), !known(m.Locals):
		return false
	case m.Result != integer && m.Result != pair:
		return false
	}
	return m.Fuel >= 0 && m.Fuel <= mostFuel && m.Stack >= 0 && m.Stack <= mostStack && m.Heap >= 0 && m.Heap <= mostHeap
}

// valids returns the valid headers among all.
func valids() []api.Method {
	return slices.DeleteFunc(all(), func(m api.Method) bool { return !valid(m) })
}

// encoded returns by the chapter's own words the encoding of a valid header.
func encoded(m api.Method) []byte {
	b := append([]byte{byte(len(m.Args))}, m.Args...)
	b = append(append(b, byte(len(m.Locals))), m.Locals...)
	reads := byte(0)
	if m.Reads {
		reads = 1
	}
	b = append(b, m.Result, reads, byte(m.Fuel%256), byte(m.Fuel/256%256), byte(m.Fuel/65536))
	return append(b, byte(m.Stack%256), byte(m.Stack/256), byte(m.Heap%256), byte(m.Heap/256))
}

// equal tells whether two methods are, their code too; a nil slice equals an empty one.
func equal(a, b api.Method) bool {
	return slices.Equal(a.Args, b.Args) && slices.Equal(a.Locals, b.Locals) && a.Result == b.Result && a.Reads == b.Reads && a.Fuel == b.Fuel && a.Stack == b.Stack && a.Heap == b.Heap && slices.Equal(a.Code, b.Code)
}

// taker takes bytes one by one, and holds the first error.
type taker struct {
	b []byte
	e api.Errno
}

// take returns the number of the next bytes, and finds an error where one is missing or the number is out of its range.
func (x *taker) take(width, least, most int) int {
	n := 0
	for i := range width {
		if x.e == 0 && len(x.b) == 0 {
			x.e = api.ErrShort
		}
		if x.e != 0 {
			return 0
		}
		n += int(x.b[0]) << (8 * i)
		x.b = x.b[1:]
	}
	if n < least || n > most {
		x.e = bad
		return 0
	}
	return n
}

// decoded returns by the chapter's own words what Read of b at offset 0 is to return.
func decoded(b []byte) reading {
	x := taker{b: b}
	var m api.Method
	for range x.take(1, 0, 4) {
		m.Args = append(m.Args, uint8(x.take(1, 1, 3)))
	}
	for range x.take(1, 0, 16-len(m.Args)) {
		m.Locals = append(m.Locals, uint8(x.take(1, 1, 3)))
	}
	m.Result = uint8(x.take(1, 1, 2))
	m.Reads = x.take(1, 0, 1) == 1
	m.Fuel, m.Stack, m.Heap = x.take(3, 0, mostFuel), x.take(2, 0, mostStack), x.take(2, 0, mostHeap)
	if x.e != 0 {
		return reading{b: b, e: x.e}
	}
	return reading{b: b, m: m, next: len(b) - len(x.b)}
}

// reading is a call of Read, and what it is to return.
type reading struct {
	b    []byte
	at   int
	m    api.Method
	next int
	e    api.Errno
}

func compare(t *testing.T, l ...reading) {
	t.Helper()
	for i, x := range l {
		if m, next, e := method.Read(x.b, x.at); !equal(m, x.m) || next != x.next || e != x.e {
			t.Errorf("%d: Read(%v, %d) = %v, %d, %d", i, x.b, x.at, m, next, e)
		}
	}
}

// refused compares a Read of each of these, from offset at on, with an error and nothing beside it.
func refused(t *testing.T, e api.Errno, at int, l ...[]byte) {
	t.Helper()
	for _, b := range l {
		compare(t, reading{b: b, at: at, e: e})
	}
}

// example is the chapter's, and its encoding.
func example() (api.Method, []byte) {
	return api.Method{Args: []uint8{1}, Locals: []uint8{2}, Result: 1, Reads: true, Fuel: 258, Stack: 3}, []byte{1, 1, 1, 2, 1, 1, 2, 1, 0, 3, 0, 0, 0}
}

// The headers of these tests are what they are said to be.
func TestHeaders(t *testing.T) {
	if api.MaxArgs != 4 || api.MaxLocals != 16 || api.MaxFuel != mostFuel || api.MaxStack != mostStack || api.MaxHeap != mostHeap {
		t.Error("api has other limits")
	}
	if api.KdInt != integer || api.KdPair != pair || api.KdRef != ref || api.ErrMethod != bad {
		t.Error("api has other numbers")
	}
	for _, m := range shapes() {
		if !valid(m) {
			t.Errorf("%v is not valid", m)
		}
	}
	if v, n := len(valids()), len(all()); v < 400 || n-v < 1000 {
		t.Errorf("%d of %d are valid", v, n)
	}
}

// P7.1: the edges of each part, one by one.
func TestMayEdges(t *testing.T) {
	for i, x := range []struct {
		m   api.Method
		may bool
	}{
		{api.Method{Result: 1}, true},
		{api.Method{Result: 2}, true},
		{api.Method{}, false},
		{api.Method{Result: 3}, false},
		{api.Method{Result: 4}, false},
		{api.Method{Result: 255}, false},
		{simple(0, 0), true},
		{simple(4, 0), true},
		{simple(5, 0), false},
		{simple(0, 16), true},
		{simple(0, 17), false},
		{simple(4, 12), true},
		{simple(4, 13), false},
		{simple(5, 11), false},
		{simple(16, 0), false},
		{simple(17, 0), false},
		{simple(256, 0), false},
		{simple(0, 256), false},
		{api.Method{Args: []uint8{0}, Result: 1}, false},
		{api.Method{Args: []uint8{3}, Result: 1}, true},
		{api.Method{Args: []uint8{4}, Result: 1}, false},
		{api.Method{Args: []uint8{1, 2, 3, 255}, Result: 1}, false},
		{api.Method{Locals: []uint8{0}, Result: 1}, false},
		{api.Method{Locals: []uint8{3}, Result: 1}, true},
		{api.Method{Locals: []uint8{4}, Result: 1}, false},
		{api.Method{Locals: []uint8{1, 2, 255}, Result: 1}, false},
		{api.Method{Result: 1, Fuel: -1}, false},
		{api.Method{Result: 1, Fuel: 1}, true},
		{api.Method{Result: 1, Fuel: mostFuel}, true},
		{api.Method{Result: 1, Fuel: mostFuel + 1}, false},
		{api.Method{Result: 1, Stack: -1}, false},
		{api.Method{Result: 1, Stack: 256}, true},
		{api.Method{Result: 1, Stack: 257}, false},
		{api.Method{Result: 1, Heap: -1}, false},
		{api.Method{Result: 1, Heap: 1024}, true},
		{api.Method{Result: 1, Heap: 1025}, false},
		{api.Method{Result: 1, Fuel: 1 << 24}, false},
		{api.Method{Result: 1, Stack: 1 << 16}, false},
		{api.Method{Result: 1, Heap: 1 << 32}, false},
	} {
		if may := method.May(x.m); may != x.may {
			t.Errorf("%d: May(%v) = %v", i, x.m, may)
		}
	}
}

// P7.1: headers of all shapes and numbers, valid and not.
func TestMay(t *testing.T) {
	for _, m := range all() {
		if may := method.May(m); may != valid(m) {
			t.Errorf("May(%v) = %v", m, may)
		}
	}
}

// P7.1: the kinds of arguments stand ahead of those of other locals, whether or not the header is valid.
func TestKinds(t *testing.T) {
	for i, x := range []struct{ args, locals, kinds []uint8 }{
		{nil, nil, nil},
		{[]uint8{}, []uint8{}, nil},
		{[]uint8{1, 3}, []uint8{2}, []uint8{1, 3, 2}},
		{[]uint8{3}, nil, []uint8{3}},
		{nil, []uint8{2, 1}, []uint8{2, 1}},
		{[]uint8{0, 255}, []uint8{4, 0}, []uint8{0, 255, 4, 0}},
		{[]uint8{1, 1, 1, 1, 1}, []uint8{9}, []uint8{1, 1, 1, 1, 1, 9}},
	} {
		for _, rest := range []api.Method{{}, {Result: 1}, {Fuel: -1}, {Result: 3, Code: make([]api.Instr, 3)}} {
			rest.Args, rest.Locals = x.args, x.locals
			if k := method.Kinds(rest); !slices.Equal(k, x.kinds) {
				t.Errorf("%d: Kinds(%v) = %v", i, rest, k)
			}
		}
	}
	for _, m := range all() {
		k := method.Kinds(m)
		if n := len(m.Args); len(k) != n+len(m.Locals) || !slices.Equal(k[:n], m.Args) || !slices.Equal(k[n:], m.Locals) {
			t.Errorf("Kinds(%v) = %v", m, k)
		}
	}
}

// P7.1: arrays hinder among the arguments alone; a header that is not valid can't migrate, whatever its arguments.
func TestMigrates(t *testing.T) {
	for i, x := range []struct {
		args, locals []uint8
		migrates     bool
	}{
		{nil, nil, true},
		{[]uint8{1}, nil, true},
		{[]uint8{2}, nil, true},
		{[]uint8{3}, nil, false},
		{nil, []uint8{1}, true},
		{nil, []uint8{2}, true},
		{nil, []uint8{3}, true},
		{[]uint8{1, 2, 1, 2}, []uint8{3, 3}, true},
		{[]uint8{3, 1, 1, 1}, nil, false},
		{[]uint8{1, 3, 1, 1}, nil, false},
		{[]uint8{1, 1, 3, 1}, nil, false},
		{[]uint8{1, 1, 1, 3}, []uint8{1}, false},
		{[]uint8{0}, nil, false},
		{[]uint8{4}, nil, false},
		{[]uint8{1, 1, 1, 1, 1}, nil, false},
		{nil, []uint8{0}, false},
	} {
		for _, result := range []uint8{1, 2} {
			m := api.Method{Args: x.args, Locals: x.locals, Result: result, Fuel: 9}
			if migrates := method.Migrates(m); migrates != x.migrates {
				t.Errorf("%d: Migrates(%v) = %v", i, m, migrates)
			}
		}
	}
	for _, m := range all() {
		if migrates := method.Migrates(m); migrates != (valid(m) && !slices.Contains(m.Args, ref)) {
			t.Errorf("Migrates(%v) = %v", m, migrates)
		}
	}
}

// P7.2: a zero value for each local that is no argument, or nothing of a header that is not valid.
func TestZeros(t *testing.T) {
	m := api.Method{Args: []uint8{2, 2}, Locals: []uint8{3, 1, 2, 1}, Result: 1}
	if z, is := method.Zeros(m); !is || !slices.Equal(z, []api.Value{{Kind: 3}, {Kind: 1}, {Kind: 2}, {Kind: 1}}) {
		t.Errorf("Zeros = %v, %v", z, is)
	}
	if z, is := method.Zeros(api.Method{Args: []uint8{1}, Result: 2}); !is || len(z) != 0 {
		t.Errorf("Zeros = %v, %v", z, is)
	}
	for _, m := range all() {
		var want []api.Value
		for _, kind := range m.Locals {
			want = append(want, api.Value{Kind: kind})
		}
		if !valid(m) {
			want = nil
		}
		if z, is := method.Zeros(m); !slices.Equal(z, want) || is != valid(m) {
			t.Errorf("Zeros(%v) = %v, %v", m, z, is)
		}
	}
}

// samples returns internal values of a kind, up to what they may hold.
func samples(kind uint8) []api.Value {
	switch kind {
	case integer:
		return []api.Value{{Kind: 1}, {Kind: 1, A: 5}, {Kind: 1, A: math.MinInt64}, {Kind: 1, A: math.MaxInt64}}
	case pair:
		return []api.Value{{Kind: 2}, {Kind: 2, A: -1, B: 2}, {Kind: 2, A: 1 << 20, B: -1 << 20}, {Kind: 2, A: -1 << 20, B: 1 << 20}}
	}
	return []api.Value{{Kind: 3}, {Kind: 3, A: 1}, {Kind: 3, A: 7}, {Kind: 3, A: math.MaxInt64}}
}

// strange returns values of all kinds, and of none, that are not internal.
func strange() []api.Value {
	return []api.Value{
		{}, {A: 1}, {Kind: 4}, {Kind: 255}, {Kind: 1, B: 1}, {Kind: 1, A: 5, B: -1}, {Kind: 2, A: 1<<20 + 1}, {Kind: 2, A: -1<<20 - 1}, {Kind: 2, B: 1<<20 + 1}, {Kind: 2, B: math.MinInt64},
		{Kind: 3, A: -1}, {Kind: 3, A: math.MinInt64}, {Kind: 3, B: 1}, {Kind: 3, A: 1, B: -1},
	}
}

// fitting returns arguments for a method of these kinds, the n-th of those that samples has.
func fitting(kinds []uint8, n int) []api.Value {
	l := make([]api.Value, len(kinds))
	for i, kind := range kinds {
		l[i] = samples(kind)[(n+i)%4]
	}
	return l
}

// P7.2: arguments that fit, and such as are too few, too many, of another kind, or not internal.
func TestFits(t *testing.T) {
	for _, m := range shapes() {
		for n := range 4 {
			args := fitting(m.Args, n)
			if !method.Fits(m, args) {
				t.Errorf("Fits(%v, %v) = false", m, args)
			}
			for kind := integer; kind <= ref; kind++ {
				if more := append(slices.Clone(args), samples(kind)[n]); method.Fits(m, more) {
					t.Errorf("Fits(%v, %v) = true", m, more)
				}
			}
			if k := len(args); k > 0 && (method.Fits(m, args[:k-1]) || method.Fits(m, args[1:]) || method.Fits(m, nil)) {
				t.Errorf("Fits(%v, %v) = true of less", m, args)
			}
			for i := range args {
				for _, v := range strange() {
					args := slices.Clone(args)
					if args[i] = v; method.Fits(m, args) {
						t.Errorf("Fits(%v, %v) = true", m, args)
					}
				}
				for kind := integer; kind <= ref; kind++ {
					args := slices.Clone(args)
					args[i] = samples(kind)[n]
					if fits := method.Fits(m, args); fits != (kind == m.Args[i]) {
						t.Errorf("Fits(%v, %v) = %v", m, args, fits)
					}
				}
			}
		}
	}
}

// P7.2: nothing fits a header that is not valid, not even values of its arguments' kinds.
func TestFitsNoHeader(t *testing.T) {
	for _, m := range all() {
		args := make([]api.Value, len(m.Args))
		for i, kind := range m.Args {
			args[i] = api.Value{Kind: kind}
		}
		if fits := method.Fits(m, args); fits != valid(m) {
			t.Errorf("Fits(%v, %v) = %v", m, args, fits)
		}
		if !valid(m) && (method.Fits(m, nil) || method.Fits(m, []api.Value{{Kind: 1}})) {
			t.Errorf("Fits(%v) = true", m)
		}
	}
}

// P7.2: the other locals do not matter to what fits, as long as the header is valid.
func TestFitsLocals(t *testing.T) {
	for _, locals := range [][]uint8{nil, {1}, {2}, {3}, {3, 2, 1}} {
		m := api.Method{Args: []uint8{1}, Locals: locals, Result: 2}
		if !method.Fits(m, []api.Value{{Kind: 1, A: 5}}) || method.Fits(m, []api.Value{{Kind: 2}}) || method.Fits(m, fitting(method.Kinds(m), 0)) != (len(locals) == 0) {
			t.Errorf("%v", m)
		}
	}
}

// P7.3: the chapter's example, and the order of the parts.
func TestBytesExamples(t *testing.T) {
	m, want := example()
	if b, e := method.Bytes(m); !bytes.Equal(b, want) || e != 0 {
		t.Errorf("Bytes = %v, %d", b, e)
	}
	for i, x := range []struct {
		m api.Method
		b []byte
	}{
		{api.Method{Result: 1}, []byte{0, 0, 1, 0, 0, 0, 0, 0, 0, 0, 0}},
		{api.Method{Result: 2, Reads: true}, []byte{0, 0, 2, 1, 0, 0, 0, 0, 0, 0, 0}},
		{api.Method{Args: []uint8{3, 2, 1}, Result: 1, Fuel: mostFuel}, []byte{3, 3, 2, 1, 0, 1, 0, 0, 0, 16, 0, 0, 0, 0}},
		{api.Method{Locals: []uint8{3, 2}, Result: 1, Stack: mostStack}, []byte{0, 2, 3, 2, 1, 0, 0, 0, 0, 0, 1, 0, 0}},
		{api.Method{Args: []uint8{1, 2}, Locals: []uint8{3}, Result: 2, Fuel: 0x0a0b0c, Stack: 0xfe, Heap: 0x0302}, []byte{2, 1, 2, 1, 3, 2, 0, 12, 11, 10, 254, 0, 2, 3}},
		{api.Method{Result: 1, Heap: mostHeap}, []byte{0, 0, 1, 0, 0, 0, 0, 0, 0, 0, 4}},
	} {
		if b, e := method.Bytes(x.m); !bytes.Equal(b, x.b) || e != 0 {
			t.Errorf("%d: Bytes(%v) = %v, %d", i, x.m, b, e)
		}
	}
}

// P7.3: the encoding of valid headers, and the error of the others.
func TestBytes(t *testing.T) {
	for _, m := range all() {
		var want []byte
		e := bad
		if valid(m) {
			want, e = encoded(m), 0
		}
		if b, be := method.Bytes(m); !bytes.Equal(b, want) || be != e {
			t.Errorf("Bytes(%v) = %v, %d", m, b, be)
		}
	}
}

// codes returns code that there may be, and such as there may not.
func codes() [][]api.Instr {
	return [][]api.Instr{nil, {}, {{Op: api.OpConst, A: 3}, {Op: api.OpRet}}, {{Op: 255, A: -1, B: 7}}, make([]api.Instr, 201)}
}

// P7.1 to P7.3: the code does not matter to anything.
func TestCode(t *testing.T) {
	for _, m := range append(shapes(), api.Method{}, simple(5, 0), simple(4, 13)) {
		for _, c := range codes() {
			with := m
			with.Code = c
			if method.May(with) != valid(m) || method.Migrates(with) != method.Migrates(m) || !slices.Equal(method.Kinds(with), method.Kinds(m)) {
				t.Errorf("code matters to %v", with)
			}
			if z, is := method.Zeros(with); is != valid(m) || is && len(z) != len(m.Locals) {
				t.Errorf("code matters to the zero values of %v", with)
			}
			if valid(m) && !method.Fits(with, fitting(m.Args, 1)) {
				t.Errorf("code matters to what fits %v", with)
			}
			b, e := method.Bytes(with)
			if c, ce := method.Bytes(m); !bytes.Equal(b, c) || e != ce {
				t.Errorf("code matters to the encoding of %v", with)
			}
		}
	}
}

// P7.4: ordinary encodings, alone and among other bytes.
func TestRead(t *testing.T) {
	m, b := example()
	compare(t, []reading{
		{b, 0, m, 13, 0},
		{slices.Concat([]byte{5}, b, []byte{0, 17}), 1, m, 14, 0},
		{[]byte{0, 0, 1, 0, 0, 0, 0, 0, 0, 0, 0}, 0, api.Method{Result: 1}, 11, 0},
		{[]byte{0, 0, 2, 1, 0, 0, 0, 0, 0, 0, 0, 9}, 0, api.Method{Result: 2, Reads: true}, 11, 0},
		{[]byte{3, 3, 2, 1, 0, 1, 0, 0, 0, 16, 0, 1, 0, 4}, 0, api.Method{Args: []uint8{3, 2, 1}, Result: 1, Fuel: mostFuel, Stack: mostStack, Heap: mostHeap}, 14, 0},
		{[]byte{9, 9, 2, 1, 2, 1, 3, 2, 0, 12, 11, 10, 254, 0, 2, 3}, 2, api.Method{Args: []uint8{1, 2}, Locals: []uint8{3}, Result: 2, Fuel: 0x0a0b0c, Stack: 0xfe, Heap: 0x0302}, 16, 0},
	}...)
	for _, m := range valids() {
		b := encoded(m)
		compare(t, reading{b, 0, m, len(b), 0})
	}
}

// P7.4: the chapter's examples of what is refused.
func TestReadExamples(t *testing.T) {
	refused(t, bad, 0, []byte{5}, []byte{1, 4}, []byte{0, 17})
	refused(t, api.ErrShort, 0, []byte{1})
}

// P7.4: offsets below 0, at the end and beyond it.
func TestReadOffset(t *testing.T) {
	_, whole := example()
	for _, b := range [][]byte{nil, {}, {0}, {5}, {1, 4}, whole, make([]byte, 300)} {
		for _, at := range []int{-1, -2, -256, -1 << 32, math.MinInt, math.MinInt + 1, len(b) + 1, len(b) + 2, len(b) + 256, len(b) + 1<<32, math.MaxInt - 1, math.MaxInt} {
			refused(t, api.ErrArg, at, b)
		}
		refused(t, api.ErrShort, len(b), b)
	}
}

// tails returns what may follow a byte at which reading ends: nothing, and bytes that are right, wrong, or too few.
func tails() [][]byte {
	_, whole := example()
	return [][]byte{nil, {0}, {1}, {255}, {5, 0, 17}, make([]byte, 300), bytes.Repeat([]byte{1}, 300), bytes.Repeat([]byte{255}, 40), whole}
}

// refusedAtOnce compares a Read of b, ahead of whatever tail and wherever it stands, with ErrMethod; b without its last byte is too short.
func refusedAtOnce(t *testing.T, b []byte) {
	t.Helper()
	for _, tail := range tails() {
		refused(t, bad, 0, slices.Concat(b, tail))
		refused(t, bad, 2, slices.Concat([]byte{0, 0}, b, tail))
	}
	refused(t, api.ErrShort, 0, b[:len(b)-1], slices.Clip(b[:len(b)-1]))
}

// P7.4: a count of arguments above its end is refused as soon as it has been read.
func TestReadArgCount(t *testing.T) {
	for n := range 256 {
		if n > 4 {
			refusedAtOnce(t, []byte{byte(n)})
			continue
		}
		m := simple(n, 2)
		compare(t, reading{encoded(m), 0, m, 13 + n, 0})
		if n > 0 {
			refused(t, api.ErrShort, 0, []byte{byte(n)})
		}
	}
}

// P7.4: a count of other locals above what the arguments leave is refused as soon as it has been read.
func TestReadLocalCount(t *testing.T) {
	for args := range 5 {
		for n := range 256 {
			head := append(append([]byte{byte(args)}, cycle(args, ref)...), byte(n))
			if args+n > 16 {
				refusedAtOnce(t, head)
				continue
			}
			m := simple(args, n)
			compare(t, reading{encoded(m), 0, m, 11 + args + n, 0})
			refused(t, api.ErrShort, 0, head)
		}
	}
}

// P7.4: a byte that is no kind, no kind of a result, or no flag, is refused as soon as it has been read.
func TestReadByte(t *testing.T) {
	for args := range 5 {
		m := simple(args, 16-args)
		b := encoded(m)
		for place := range b[:len(b)-7] {
			first, last := byte(1), byte(3)
			switch {
			case place == 0 || place == args+1: // counts have tests of their own
				continue
			case place == len(b)-9:
				last = 2
			case place == len(b)-8:
				first, last = 0, 1
			}
			for x := range 256 {
				other := slices.Clone(b)
				other[place] = byte(x)
				if byte(x) < first || byte(x) > last {
					refusedAtOnce(t, other[:place+1])
					continue
				}
				compare(t, decoded(other))
				if _, next, e := method.Read(other, 0); next != len(b) || e != 0 {
					t.Errorf("%d at %d: %d, %d", x, place, next, e)
				}
			}
		}
	}
}

// P7.4: a Fuel above its end is refused when all three of its bytes have been read.
func TestReadFuel(t *testing.T) {
	m := simple(1, 1)
	head := encoded(m)[:6]
	for high := range 256 {
		for _, mid := range []byte{0, 1, 16, 127, 128, 255} {
			for _, low := range []byte{0, 1, 16, 127, 128, 255} {
				b := append(slices.Clone(head), low, mid, byte(high))
				m.Fuel = int(low) + 256*int(mid) + 65536*high
				if m.Fuel > mostFuel {
					refusedAtOnce(t, b)
					refused(t, api.ErrShort, 0, b[:7], b[:6])
					continue
				}
				compare(t, reading{append(b, 3, 0, 3, 2), 0, m, 13, 0})
			}
		}
	}
}

// P7.4: a Stack and a Heap above their ends are refused when both of their bytes have been read.
func TestReadStackHeap(t *testing.T) {
	m := simple(1, 1)
	b := encoded(m)
	for n := range 1 << 16 {
		low, high := byte(n), byte(n>>8)
		if n > 300 && n < 1000 || n > 1100 && n%31 > 0 {
			continue
		}
		if stack := append(slices.Clone(b[:9]), low, high); n > mostStack {
			refusedAtOnce(t, stack)
		} else {
			compare(t, reading{append(stack, 3, 2), 0, changed(m, func(m *api.Method) { m.Stack = n }), 13, 0})
		}
		if heap := append(slices.Clone(b[:11]), low, high); n > mostHeap {
			refusedAtOnce(t, heap)
		} else {
			compare(t, reading{heap, 0, changed(m, func(m *api.Method) { m.Heap = n }), 13, 0})
		}
	}
}

// P7.4: an input that ends ahead of any byte of a header; bytes behind the length do not count.
func TestReadShort(t *testing.T) {
	for _, m := range valids() {
		b := encoded(m)
		for n := range b {
			refused(t, api.ErrShort, 0, b[:n], b[:n:n])
			refused(t, api.ErrShort, 2, append([]byte{5, 5}, b[:n]...))
			refused(t, api.ErrArg, n+1, b[:n])
		}
	}
}

// P7.4: of several errors the one that is met first is told.
func TestReadOrder(t *testing.T) {
	refused(t, api.ErrArg, -1, []byte{5}, nil)
	refused(t, api.ErrArg, 2, []byte{5}, []byte{1})
	refused(t, bad, 0, []byte{5}, []byte{255, 0}, []byte{2, 4}, []byte{2, 0, 1}, []byte{1, 1, 16}, []byte{4, 1, 1, 1, 1, 13}, []byte{0, 17, 0}, []byte{0, 2, 4}, []byte{0, 0, 3}, []byte{0, 0, 1, 2}, []byte{0, 0, 1, 0, 1, 0, 16}, []byte{0, 0, 1, 0, 0, 0, 0, 1, 1}, []byte{0, 0, 1, 0, 0, 0, 0, 0, 0, 1, 4})
	refused(t, api.ErrShort, 0, []byte{4}, []byte{2, 1}, []byte{1, 1}, []byte{0, 16}, []byte{0, 2, 3}, []byte{0, 0}, []byte{0, 0, 1}, []byte{0, 0, 1, 0}, []byte{0, 0, 1, 0, 255, 255}, []byte{0, 0, 1, 0, 0, 0, 16, 255}, []byte{0, 0, 1, 0, 0, 0, 16, 0, 1, 255})
}

// P7.4: every byte of a header replaced, and what results cut off anywhere.
func TestReadReplaced(t *testing.T) {
	for _, m := range []api.Method{simple(0, 0), simple(1, 1), simple(2, 3), simple(4, 12), simple(0, 16), {Args: cycle(3, ref), Result: pair, Fuel: mostFuel, Stack: mostStack, Heap: mostHeap}} {
		b := append(encoded(m), 1, 2)
		for place := range b {
			for x := range 256 {
				other := slices.Clone(b)
				other[place] = byte(x)
				for n := range other {
					compare(t, decoded(other[:n]))
				}
			}
		}
	}
}

// P7.5: a header equals itself, whatever its code, and whether or not it is valid; a nil slice equals an empty one.
func TestSame(t *testing.T) {
	for _, m := range all() {
		other := changed(m, func(m *api.Method) {
			m.Args, m.Locals = append([]uint8{}, m.Args...), append([]uint8{}, m.Locals...)
		})
		for _, c := range codes() {
			if other.Code = c; !method.Same(m, other) || !method.Same(other, m) {
				t.Errorf("Same(%v, %v) = false", m, other)
			}
		}
	}
	if !method.Same(api.Method{}, api.Method{Args: []uint8{}, Locals: []uint8{}, Code: []api.Instr{}}) {
		t.Error("a nil slice is not the same as an empty one")
	}
}

// P7.5: headers that differ in one thing.
func TestSameNot(t *testing.T) {
	for _, m := range []api.Method{simple(2, 2), simple(4, 12), simple(5, 20), {Args: []uint8{0}, Locals: []uint8{255}, Result: 9, Fuel: -1, Stack: -1, Heap: -1}} {
		for i, change := range []func(m *api.Method){
			func(m *api.Method) { m.Args[0]++ },
			func(m *api.Method) { m.Args[len(m.Args)-1]-- },
			func(m *api.Method) { m.Locals[0]-- },
			func(m *api.Method) { m.Locals[len(m.Locals)-1]++ },
			func(m *api.Method) { m.Args = m.Args[1:] },
			func(m *api.Method) { m.Args = m.Args[:len(m.Args)-1] },
			func(m *api.Method) { m.Args = append(m.Args, 1) },
			func(m *api.Method) { m.Args = nil },
			func(m *api.Method) { m.Locals = m.Locals[1:] },
			func(m *api.Method) { m.Locals = append(m.Locals, 1) },
			func(m *api.Method) { m.Locals = nil },
			func(m *api.Method) { m.Args, m.Locals = append(m.Args, m.Locals[0]), m.Locals[1:] },
			func(m *api.Method) { m.Args, m.Locals = nil, method.Kinds(*m) },
			func(m *api.Method) { m.Args, m.Locals = method.Kinds(*m), nil },
			func(m *api.Method) { m.Result++ },
			func(m *api.Method) { m.Result ^= 128 },
			func(m *api.Method) { m.Reads = !m.Reads },
			func(m *api.Method) { m.Fuel++ },
			func(m *api.Method) { m.Fuel += 1 << 24 },
			func(m *api.Method) { m.Stack-- },
			func(m *api.Method) { m.Stack += 1 << 16 },
			func(m *api.Method) { m.Heap++ },
			func(m *api.Method) { m.Heap -= 1 << 32 },
			func(m *api.Method) { m.Fuel, m.Stack = m.Fuel+1, m.Stack-1 },
		} {
			other := changed(m, change)
			if method.Same(m, other) || method.Same(other, m) {
				t.Errorf("%d: Same(%v, %v) = true", i, m, other)
			}
		}
	}
	for i, a := range shapes() {
		for k, b := range shapes() {
			if same := method.Same(a, b); same != equal(a, b) || i == k && !same {
				t.Errorf("Same(%v, %v) = %v", a, b, same)
			}
		}
	}
}

// P7.6: a header is read back from its encoding, wherever it stands.
func TestThereAndBack(t *testing.T) {
	for _, m := range valids() {
		b, e := method.Bytes(m)
		if e != 0 {
			t.Fatalf("Bytes = %d", e)
		}
		for _, before := range [][]byte{nil, {0}, {5, 1}, make([]byte, 300), b} {
			for _, behind := range [][]byte{nil, {0}, {1, 2}, {255}, b} {
				compare(t, reading{slices.Concat(before, b, behind), len(before), m, len(before) + len(b), 0})
			}
		}
		with := m
		with.Code = codes()[2]
		b, _ = method.Bytes(with)
		compare(t, reading{b, 0, m, len(b), 0})
	}
}

// P7.6: headers are read one behind the other.
func TestInRow(t *testing.T) {
	var b []byte
	for _, m := range valids() {
		part, _ := method.Bytes(m)
		b = append(b, part...)
	}
	at := 0
	for _, m := range valids() {
		got, next, e := method.Read(b, at)
		if !method.Same(got, m) || e != 0 {
			t.Fatalf("%v at %d comes back as %v, %d", m, at, got, e)
		}
		at = next
	}
	if at != len(b) {
		t.Errorf("the last one ends at %d of %d", at, len(b))
	}
}

// P7.6: the encoding of a header that was read are the bytes that were read, whichever they were.
func TestBackAndThere(t *testing.T) {
	read := 0
	for _, m := range shapes() {
		b := append(encoded(m), 1, 1, 0)
		for i := range b {
			for _, x := range []byte{0, 1, 2, 3, 4, 5, 12, 15, 16, 17, 127, 128, 255} {
				other := slices.Clone(b)
				other[i] = x
				got, next, e := method.Read(other, 0)
				if e != 0 {
					continue
				}
				read++
				if c, e := method.Bytes(got); !bytes.Equal(c, other[:next]) || e != 0 || !method.May(got) || len(got.Code) != 0 {
					t.Errorf("Read(%v), then Bytes = %v, %d", other, c, e)
				}
			}
		}
	}
	if read < 10000 {
		t.Errorf("only %d were read", read)
	}
}

// P7.7: arguments that fit, followed by the zero values, are of the method's kinds, in order.
func TestValues(t *testing.T) {
	for _, m := range valids() {
		for n := range 4 {
			args := fitting(m.Args, n)
			zeros, is := method.Zeros(m)
			if !is || !method.Fits(m, args) {
				t.Fatalf("%v is not valid, or %v does not fit", m, args)
			}
			locals := slices.Concat(args, zeros)
			kinds := method.Kinds(m)
			if len(locals) != len(kinds) {
				t.Fatalf("%v has %d values, and %d kinds", m, len(locals), len(kinds))
			}
			for i, v := range locals {
				if v.Kind != kinds[i] || !value.Inside(v) {
					t.Errorf("%v: value %d is %v", m, i, v)
				}
				if i >= len(args) && v != (api.Value{Kind: kinds[i]}) {
					t.Errorf("%v: value %d is %v, not zero", m, i, v)
				}
			}
		}
	}
}

// spoil writes other numbers into all of l's memory.
func spoil[T uint8 | api.Value](l []T, x T) {
	l = l[:cap(l)]
	for i := range l {
		l[i] = x
	}
}

// roomy returns l with room behind it that holds other elements, and all of that memory.
func roomy[T any](l []T, x T) (front, whole []T) {
	whole = append(slices.Clone(l), slices.Repeat([]T{x}, 20)...)
	return whole[:len(l)], whole
}

// Rules: what is passed stays as it was, also in the room behind it, whatever is written into what was returned.
func TestUnchanged(t *testing.T) {
	for _, m := range all() {
		whole := make([][]uint8, 2)
		before := m
		m.Args, whole[0] = roomy(m.Args, 9)
		m.Locals, whole[1] = roomy(m.Locals, 8)
		m.Code = []api.Instr{{Op: api.OpRet}}
		args, values := roomy(make([]api.Value, len(m.Args)), api.Value{Kind: 7})
		for i, kind := range m.Args {
			args[i].Kind = kind
		}
		kept := [][]uint8{slices.Clone(whole[0]), slices.Clone(whole[1])}
		keptValues := slices.Clone(values)
		kinds := method.Kinds(m)
		zeros, _ := method.Zeros(m)
		b, _ := method.Bytes(m)
		method.May(m)
		method.Fits(m, args)
		method.Migrates(m)
		method.Same(m, before)
		spoil(kinds, 77)
		spoil(b, 77)
		spoil(zeros, api.Value{Kind: 77})
		if !slices.Equal(whole[0], kept[0]) || !slices.Equal(whole[1], kept[1]) || !slices.Equal(values, keptValues) || m.Code[0] != (api.Instr{Op: api.OpRet}) || !method.Same(m, before) {
			t.Fatalf("%v has become %v, %v, %v", before, m, whole, values)
		}
	}
}

// Rules: what was returned stays as it was, whatever is written into what was passed or returned besides.
func TestApart(t *testing.T) {
	for _, m := range valids() {
		own := changed(m, func(*api.Method) {})
		kinds := method.Kinds(own)
		zeros, _ := method.Zeros(own)
		b, _ := method.Bytes(own)
		otherKinds := method.Kinds(own)
		otherZeros, _ := method.Zeros(own)
		otherBytes, _ := method.Bytes(own)
		spoil(own.Args, 77)
		spoil(own.Locals, 77)
		spoil(otherKinds, 77)
		spoil(otherZeros, api.Value{Kind: 77})
		spoil(otherBytes, 77)
		again, _ := method.Zeros(m)
		if !slices.Equal(kinds, slices.Concat(m.Args, m.Locals)) || !bytes.Equal(b, encoded(m)) || !slices.Equal(zeros, again) {
			t.Fatalf("%v: %v, %v, %v", m, kinds, b, zeros)
		}
	}
}

// Rules: what Read is passed stays as it was, and neither what it returned nor any two lists of that share memory.
func TestReadApart(t *testing.T) {
	for _, m := range valids() {
		b, whole := roomy(append([]byte{5}, encoded(m)...), 1)
		before := slices.Clone(whole)
		one, _, _ := method.Read(b, 1)
		two, _, _ := method.Read(b, 1)
		spoil(two.Args, 77)
		if !slices.Equal(two.Locals, m.Locals) {
			t.Fatalf("%v: its lists share memory", m)
		}
		spoil(two.Locals, 77)
		if !bytes.Equal(whole, before) || !equal(one, m) {
			t.Fatalf("Read of %v: %v, %v", before, whole, one)
		}
		spoil(whole, 77)
		if !equal(one, m) {
			t.Fatalf("Read of %v keeps to its input: %v", before, one)
		}
	}
}
