package module_test

import (
	"bytes"
	"slices"
	"testing"

	"capstan/api"
	"capstan/module"
)

// refused holds Parse of each of these against an error and nothing beside it.
func refused(t *testing.T, e api.Errno, l ...[]byte) {
	t.Helper()
	for _, b := range l {
		if m, got := module.Parse(b); got != e || !equal(m, api.Module{}) {
			t.Errorf("Parse(%v) = %v, %d, not %d", b, m, got, e)
		}
	}
}

// parsed holds Parse of b against a module.
func parsed(t *testing.T, b []byte, want api.Module) {
	t.Helper()
	if m, e := module.Parse(b); e != 0 || !equal(m, want) {
		t.Errorf("Parse(%v) = %v, %d, not %v", b, m, e, want)
	}
}

// P8.2: the chapter's examples.
func TestParseExamples(t *testing.T) {
	parsed(t, smallBytes(), small())
	refused(t, short, nil, []byte{})
	refused(t, bad, []byte{0, 0, 0, 0}, []byte{0, 0, 0, 255, 0})
	parsed(t, []byte{0, 0, 0, 255}, api.Module{Migrate: -1})
}

// P8.2: the order of the parts, byte by byte.
func TestParseOrder(t *testing.T) {
	b := []byte{
		2, 2, 1, 0, 16, 2, 0, 16, 1, 5, 0, 0, 0, 0, 0, 0, 128,
		1, 1, 254, 255, 255, 255, 255, 255, 255, 255,
		2,
		1, 3, 1, 2, 2, 1, 1, 2, 3, 0, 1, 5, 1, 2, 1, 3, 0, 31,
		0, 0, 1, 0, 0, 0, 0, 0, 0, 0, 0, 1, 32, 255, 0,
		1,
	}
	parsed(t, b, api.Module{
		Globals: []api.Value{pair(1, 2), number(-1<<63 + 5)},
		Pool:    []api.Value{number(-2)},
		Methods: []api.Method{
			{Args: []uint8{3}, Locals: []uint8{2}, Result: 2, Reads: true, Fuel: 0x030201, Stack: 256, Heap: 261, Code: []api.Instr{{Op: api.OpConst, A: 3}, {Op: api.OpRet}}},
			{Result: 1, Code: []api.Instr{{Op: api.OpTrap, A: 255}}},
		},
		Migrate: 1,
	})
}

// P8.2, P8.4: a module without a fault is parsed back from its encoding.
func TestThereAndBack(t *testing.T) {
	for _, m := range modules() {
		b, e := module.Bytes(m)
		if e != 0 {
			t.Fatalf("Bytes of %v: %d", m, e)
		}
		parsed(t, b, m)
		parsed(t, encoded(m), m)
	}
}

// P8.2: an input that ends ahead of any byte of an encoding.
func TestParseShort(t *testing.T) {
	for _, m := range modules() {
		b := encoded(m)
		for n := range b {
			refused(t, short, b[:n], b[:n:n])
		}
	}
}

// P8.2: bytes after the end, and an encoding after another one.
func TestParseBehind(t *testing.T) {
	for _, m := range modules() {
		b := encoded(m)
		for _, tail := range [][]byte{{0}, {1}, {255}, {255, 255}, {0, 0, 0, 255}, smallBytes(), b} {
			e := bad
			if len(b)+len(tail) > 2000 {
				e = long
			}
			refused(t, e, slices.Concat(b, tail))
		}
	}
}

// wrong is bytes in the place of a part, at the last of which reading that part ends with the error.
type wrong struct {
	b []byte
	e api.Errno
}

// wrongValues returns values that can't be read, each behind the count and ahead values that can.
func wrongValues(count byte, ahead int) []wrong {
	head := append([]byte{count}, encodedPool(values(ahead))[1:]...)
	var l []wrong
	for _, b := range [][]byte{{0}, {3}, {4}, {255}, {2, 1, 0, 32, 0, 0, 0}, {2, 0, 0, 0, 255, 255, 255}, {2, 1, 0, 32, 1, 0, 32}} {
		l = append(l, wrong{slices.Concat(head, b), badValue})
	}
	return l
}

// wrongCounts returns the single bytes from first to last, which have that error.
func wrongCounts(first, last int, e api.Errno) []wrong {
	var l []wrong
	for n := first; n <= last; n++ {
		l = append(l, wrong{[]byte{byte(n)}, e})
	}
	return l
}

// wrongGlobals returns what stands in the place of the globals.
func wrongGlobals() []wrong {
	l := slices.Concat(wrongCounts(33, 255, badPool), wrongValues(1, 0), wrongValues(4, 3), wrongValues(5, 0), wrongValues(5, 4), wrongValues(32, 31))
	for n := 5; n <= 32; n++ {
		l = append(l, wrong{encodedPool(values(n)), bad})
	}
	return append(l, wrong{encodedPool(slices.Repeat([]api.Value{number(0)}, 5)), bad})
}

// wrongConstants returns what stands in the place of the constants.
func wrongConstants() []wrong {
	return slices.Concat(wrongCounts(33, 255, badPool), wrongValues(1, 0), wrongValues(5, 4), wrongValues(32, 31))
}

// wrongHeaders returns what stands in the place of a header.
func wrongHeaders() []wrong {
	l := wrongCounts(5, 255, badMethod)
	for _, b := range [][]byte{
		{1, 0}, {1, 4}, {4, 1, 2, 3, 255}, {0, 17}, {0, 255}, {4, 1, 1, 1, 1, 13}, {0, 1, 0}, {0, 2, 1, 4}, {0, 0, 0}, {0, 0, 3}, {0, 0, 1, 2}, {0, 0, 1, 255},
		{0, 0, 1, 0, 1, 0, 16}, {0, 0, 1, 0, 0, 0, 255}, {0, 0, 1, 0, 0, 0, 0, 1, 1}, {0, 0, 1, 0, 0, 0, 0, 0, 0, 1, 4}, {0, 0, 1, 0, 0, 0, 0, 0, 0, 255, 255},
	} {
		l = append(l, wrong{b, badMethod})
	}
	return l
}

// wrongCodes returns what stands in the place of code.
func wrongCodes() []wrong {
	l := append(wrongCounts(201, 255, badOp), wrong{[]byte{0}, badOp})
	for _, b := range [][]byte{
		{1, 33}, {1, 255}, {200, 128}, {1, api.OpConst, 32, 0}, {1, api.OpConst, 0, 1}, {1, api.OpLoad, 4, 0}, {1, api.OpLoop, 0, 0}, {1, api.OpLoop, 101, 0}, {1, api.OpCall, 16, 0},
		{1, api.OpTrap, 0, 1}, {1, api.OpJump, 200, 0}, {2, api.OpNew, 1, 4}, {3, api.OpRet, api.OpRet, 33}, {2, api.OpRet, api.OpTrap, 255, 255},
	} {
		l = append(l, wrong{b, badOp})
	}
	return l
}

// wrongAt returns what stands in the place of each of the pieces of a module with so many methods, and behind the last one.
func wrongAt(methods int) [][]wrong {
	l := [][]wrong{wrongGlobals(), wrongConstants(), wrongCounts(17, 255, bad)}
	for range methods {
		l = append(l, wrongHeaders(), wrongCodes())
	}
	return append(l, wrongCounts(methods, 254, bad), wrongCounts(0, 255, bad))
}

// tails returns what may follow the byte at which reading ends: nothing, and bytes of all sorts.
func tails() [][]byte {
	return [][]byte{nil, {0}, {255}, {33}, {5, 0, 17, 201, 254}, bytes.Repeat([]byte{1}, 100), bytes.Repeat([]byte{255}, 30), {0, 0, 0, 255}}
}

// P8.2: whatever is wrong with a part is told as soon as its last byte has been read, whatever stands behind it; without that byte, the input is too short.
func TestParseWrong(t *testing.T) {
	for _, m := range []api.Module{{Migrate: -1}, small(), full(), {Globals: values(4), Methods: []api.Method{rich(), leaf(1)}, Migrate: 1}, {Pool: values(32), Methods: leaves(16), Migrate: 15}} {
		good := pieces(m)
		for i, l := range wrongAt(len(m.Methods)) {
			head := slices.Concat(good[:i]...)
			rest := slices.Concat(good[min(i+1, len(good)):]...)
			for _, x := range l {
				b := slices.Concat(head, x.b)
				for _, tail := range append(tails(), rest) {
					refused(t, x.e, slices.Concat(b, tail))
				}
				if i < len(good) {
					refused(t, short, b[:len(b)-1], slices.Clip(b[:len(b)-1]))
				}
			}
		}
	}
}

// some returns about twelve of l, from its first one on.
func some(l []wrong) []wrong {
	var out []wrong
	for i := 0; i < len(l); i += len(l)/12 + 1 {
		out = append(out, l[i])
	}
	return out
}

// P8.2: of two parts that are wrong the one ahead is told.
func TestParseFirst(t *testing.T) {
	good := pieces(full())
	kinds := wrongAt(3)
	for i := range good {
		for k := i + 1; k < len(good); k++ {
			for _, one := range some(kinds[i]) {
				for _, other := range some(kinds[k]) {
					both := slices.Clone(good)
					both[i], both[k] = one.b, other.b
					refused(t, one.e, slices.Concat(both...))
				}
			}
		}
	}
}

// P8.2: globals are refused for their number when they have been read, and not ahead of it.
func TestParseGlobals(t *testing.T) {
	for n := range 33 {
		m := full()
		m.Globals = values(n)
		b := encodedPool(m.Globals)
		if n <= 4 {
			parsed(t, encoded(m), m)
			refused(t, short, b)
			continue
		}
		refused(t, bad, b, encoded(m), append(b, 33), append(b, 1, 3), append(b, 0, 17), append(b, 0, 0, 0, 255, 0))
		for k := range b {
			refused(t, short, b[:k])
		}
	}
}

// P8.2: a number of methods is refused as soon as it has been read; 16 are not.
func TestParseCount(t *testing.T) {
	for n := range 256 {
		for _, head := range [][]byte{{0, 0}, smallBytes()[:11]} {
			b := append(slices.Clone(head), byte(n))
			switch {
			case n > 16:
				refused(t, bad, b, append(b, 5), append(b, 0), append(b, 255), append(b, encoded(full())...))
			case n > 0:
				refused(t, short, b)
			}
		}
		m := api.Module{Methods: leaves(n), Migrate: -1}
		if n <= 16 {
			parsed(t, encoded(m), m)
		} else if len(encoded(m)) <= 2000 {
			refused(t, bad, encoded(m))
		}
	}
}

// P8.2: the last byte is 255 or the index of a method.
func TestParseMigrate(t *testing.T) {
	for _, n := range []int{0, 1, 2, 15, 16} {
		m := api.Module{Globals: values(1), Methods: leaves(n), Migrate: -1}
		b := encoded(m)
		for last := range 256 {
			b[len(b)-1] = byte(last)
			switch {
			case last == 255:
				m.Migrate = -1
				parsed(t, b, m)
			case last < n:
				m.Migrate = last
				parsed(t, b, m)
			default:
				refused(t, bad, b)
			}
		}
	}
}

// P8.2: inputs of up to 2000 bytes are read; of more, none, whatever they are.
func TestParseLength(t *testing.T) {
	for _, n := range []int{1998, 1999, 2000} {
		for _, m := range ofSize(n) {
			parsed(t, encoded(m), m)
			refused(t, short, encoded(m)[:n-1])
		}
		refused(t, bad, make([]byte, n), append(smallBytes(), make([]byte, n-29)...))
		refused(t, badPool, bytes.Repeat([]byte{255}, n))
	}
	for _, m := range ofSize(2000) {
		refused(t, long, append(encoded(m), 0), append(encoded(m), 255))
	}
	for _, n := range []int{2001, 2002, 2256, 4000, 65536, 65536 + 29, 1 << 20} {
		refused(t, long, make([]byte, n), bytes.Repeat([]byte{255}, n), append(smallBytes(), make([]byte, n-29)...))
		if n < 2500 {
			for _, m := range ofSize(n) {
				refused(t, long, encoded(m))
			}
		}
	}
	refused(t, bad, append(slices.Grow([]byte{0, 0, 0, 0}, 4000), 0)) // capacity is not length
}

// P8.2, P8.4: encodings with any byte changed: what is parsed has the input as its encoding, and what is not has the error of the first part that is wrong.
func TestBackAndThere(t *testing.T) {
	read := 0
	for _, m := range modules() {
		b := encoded(m)
		if len(b) > 250 || len(m.Methods) > 4 {
			continue
		}
		for i := range b {
			for _, x := range []byte{0, 1, 2, 3, 4, 5, 16, 17, 31, 32, 33, 128, 200, 201, 254, 255, b[i] + 1, b[i] - 1} {
				other := slices.Clone(b)
				other[i] = x
				want, e := decoded(other)
				if e != 0 {
					refused(t, e, other)
					continue
				}
				read++
				parsed(t, other, want)
				if c, e := module.Bytes(want); e != 0 || !bytes.Equal(c, other) || module.May(want) != 0 {
					t.Errorf("Parse(%v), then Bytes = %v, %d", other, c, e)
				}
			}
		}
	}
	if read < 10000 {
		t.Errorf("only %d were read", read)
	}
}

// P8.4: no encoding is a proper prefix of another one.
func TestPrefix(t *testing.T) {
	l := modules()
	for i, a := range l {
		one, _ := module.Bytes(a)
		for k, b := range l {
			other, _ := module.Bytes(b)
			if bytes.HasPrefix(other, one) && !equal(a, b) {
				t.Errorf("the encoding of module %d begins that of module %d", i, k)
			}
		}
	}
}

// Rules: what Parse is passed stays as it was, whatever is written into what it returned, and the other way about.
func TestParseApart(t *testing.T) {
	for _, m := range modules() {
		whole := append(encoded(m), 1, 2, 3)
		before := slices.Clone(whole)
		b := whole[:len(whole)-3]
		one, _ := module.Parse(b)
		two, _ := module.Parse(b)
		spoil(one)
		if !bytes.Equal(whole, before) || !equal(two, m) {
			t.Fatalf("Parse(%v): what it returned is not apart", before)
		}
		clear(whole)
		if !equal(two, m) {
			t.Fatalf("Parse(%v) keeps to its input", before)
		}
	}
}

// Rules: no two lists of a module that was parsed share memory.
func TestParseLists(t *testing.T) {
	for _, m := range []api.Module{full(), repeated()} {
		for i := range spoilers(m) {
			got, _ := module.Parse(encoded(m))
			want := twin(m)
			spoilers(got)[i]()
			spoilers(want)[i]()
			if !equal(got, want) {
				t.Errorf("list %d shares memory with another", i)
			}
		}
	}
}
