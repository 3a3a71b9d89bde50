package value_test

import (
	"bytes"
	"math"
	"testing"

	"capstan/api"
	"capstan/value"
)

const m = 1 << 20 // the greatest part of a valid pair

const (
	none    = api.KdNone
	integer = api.KdInt
	pair    = api.KdPair
	ref     = api.KdRef
)

// class is what a value is: not even internal, internal alone, or external.
type class int

const (
	outside class = iota
	internal
	external
)

// parts returns integers about the edges that a field may have: those of a part, of three bytes, and of 64 bits.
func parts() []int64 {
	l := []int64{1, 2, 127, 128, 255, 256, 258, 65535, 65536, m - 1, m, m + 1, 2 * m, 2*m + 1, 1<<24 - m - 1, 1<<24 - m, 1<<24 - 1, 1 << 24, 1 << 31, 1 << 32, 1<<32 + 1, 1 << 62, math.MaxInt64 - m, math.MaxInt64 - 1, math.MaxInt64}
	out := []int64{math.MinInt64}
	for i := len(l) - 1; i >= 0; i-- {
		out = append(out, -l[i])
	}
	return append(append(out, 0), l...)
}

// kinds returns the three kinds that there are, and such as are none.
func kinds() []uint8 {
	return []uint8{none, integer, pair, ref, 4, 5, 16, 127, 128, 129, 130, 254, 255}
}

// all returns values of all kinds with all parts.
func all() []api.Value {
	var l []api.Value
	for _, kind := range kinds() {
		for _, a := range parts() {
			for _, b := range parts() {
				l = append(l, api.Value{Kind: kind, A: a, B: b})
			}
		}
	}
	return l
}

// within tells whether n may be a part of a valid pair.
func within(n int64) bool { return n >= -m && n <= m }

// classed tells by the chapter's own words what v is.
func classed(v api.Value) class {
	switch {
	case v.Kind == integer && v.B == 0:
		return external
	case v.Kind == pair && within(v.A) && within(v.B):
		return external
	case v.Kind == ref && v.A >= 0 && v.B == 0:
		return internal
	}
	return outside
}

// externals returns the external values among all.
func externals() []api.Value {
	var l []api.Value
	for _, v := range all() {
		if classed(v) == external {
			l = append(l, v)
		}
	}
	return l
}

// encoded returns by the chapter's own words the encoding of an external value.
func encoded(v api.Value) []byte {
	b := []byte{v.Kind}
	if v.Kind == integer {
		for i := 0; i < 64; i += 8 {
			b = append(b, byte(v.A>>i))
		}
		return b
	}
	for _, n := range []int64{v.A + m, v.B + m} {
		b = append(b, byte(n), byte(n>>8), byte(n>>16))
	}
	return b
}

// P3.1: each kind, the edges of its fields, one beyond each, and kinds that are none.
func TestMayInside(t *testing.T) {
	for i, x := range []struct {
		v    api.Value
		want class
	}{
		{api.Value{Kind: integer}, external},
		{api.Value{Kind: integer, A: 258}, external},
		{api.Value{Kind: integer, A: -1}, external},
		{api.Value{Kind: integer, A: math.MaxInt64}, external},
		{api.Value{Kind: integer, A: math.MinInt64}, external},
		{api.Value{Kind: integer, B: 1}, outside},
		{api.Value{Kind: integer, A: 7, B: -1}, outside},
		{api.Value{Kind: integer, A: 7, B: 1 << 32}, outside},
		{api.Value{Kind: integer, B: math.MinInt64}, outside},
		{api.Value{Kind: pair}, external},
		{api.Value{Kind: pair, A: -1, B: 2}, external},
		{api.Value{Kind: pair, A: m, B: m}, external},
		{api.Value{Kind: pair, A: -m, B: -m}, external},
		{api.Value{Kind: pair, A: m, B: -m}, external},
		{api.Value{Kind: pair, A: -m, B: m}, external},
		{api.Value{Kind: pair, A: m + 1}, outside},
		{api.Value{Kind: pair, A: -m - 1}, outside},
		{api.Value{Kind: pair, B: m + 1}, outside},
		{api.Value{Kind: pair, B: -m - 1}, outside},
		{api.Value{Kind: pair, A: math.MaxInt64}, outside},
		{api.Value{Kind: pair, A: math.MinInt64}, outside},
		{api.Value{Kind: pair, B: math.MaxInt64}, outside},
		{api.Value{Kind: pair, B: math.MinInt64}, outside},
		{api.Value{Kind: ref}, internal},
		{api.Value{Kind: ref, A: 7}, internal},
		{api.Value{Kind: ref, A: m + 1}, internal},
		{api.Value{Kind: ref, A: math.MaxInt64}, internal},
		{api.Value{Kind: ref, A: -1}, outside},
		{api.Value{Kind: ref, A: math.MinInt64}, outside},
		{api.Value{Kind: ref, B: 1}, outside},
		{api.Value{Kind: ref, A: 7, B: -1}, outside},
		{api.Value{}, outside},
		{api.Value{A: 1}, outside},
		{api.Value{B: 1}, outside},
		{api.Value{A: m + 1}, outside},
		{api.Value{Kind: 4}, outside},
		{api.Value{Kind: 4, A: 1, B: 1}, outside},
		{api.Value{Kind: 255}, outside},
		{api.Value{Kind: 255, A: m + 1, B: m + 1}, outside},
	} {
		if may := value.May(x.v); may != (x.want == external) {
			t.Errorf("%d: May(%v) = %v", i, x.v, may)
		}
		if inside := value.Inside(x.v); inside != (x.want != outside) {
			t.Errorf("%d: Inside(%v) = %v", i, x.v, inside)
		}
	}
	for _, v := range all() {
		if may := value.May(v); may != (classed(v) == external) {
			t.Errorf("May(%v) = %v", v, may)
		}
		if inside := value.Inside(v); inside != (classed(v) != outside) {
			t.Errorf("Inside(%v) = %v", v, inside)
		}
	}
}

// P3.2: three kinds have a zero value, and no other one.
func TestZero(t *testing.T) {
	for kind := range 256 {
		want, is := api.Value{}, false
		if kind == 1 || kind == 2 || kind == 3 {
			want, is = api.Value{Kind: uint8(kind)}, true
		}
		if v, vi := value.Zero(uint8(kind)); v != want || vi != is {
			t.Errorf("Zero(%d) = %v, %v", kind, v, vi)
		}
	}
}

// P3.2: each integer is a value, the least and the greatest one too.
func TestInt(t *testing.T) {
	for _, n := range parts() {
		if v := value.Int(n); v != (api.Value{Kind: integer, A: n}) {
			t.Errorf("Int(%d) = %v", n, v)
		}
	}
}

// P3.2: pairs, the edges of both parts, and one beyond either.
func TestPair(t *testing.T) {
	for i, x := range []struct {
		a, b int64
		is   bool
	}{
		{0, 0, true},
		{-1, 2, true},
		{m, -m, true},
		{-m, m, true},
		{m + 1, 0, false},
		{-m - 1, 0, false},
		{0, m + 1, false},
		{0, -m - 1, false},
		{m + 1, -m - 1, false},
		{math.MinInt64, 0, false},
		{0, math.MinInt64, false},
		{math.MaxInt64, math.MaxInt64, false},
	} {
		want := api.Value{}
		if x.is {
			want = api.Value{Kind: pair, A: x.a, B: x.b}
		}
		if v, is := value.Pair(x.a, x.b); v != want || is != x.is {
			t.Errorf("%d: Pair(%d, %d) = %v, %v", i, x.a, x.b, v, is)
		}
	}
	for _, a := range parts() {
		for _, b := range parts() {
			want, is := api.Value{}, within(a) && within(b)
			if is {
				want = api.Value{Kind: pair, A: a, B: b}
			}
			if v, vi := value.Pair(a, b); v != want || vi != is {
				t.Errorf("Pair(%d, %d) = %v, %v", a, b, v, vi)
			}
		}
	}
}

// P3.3: ordinary values, the edges of their fields, and what is not external.
func TestBytes(t *testing.T) {
	for i, x := range []struct {
		v    api.Value
		want []byte
		e    api.Errno
	}{
		{api.Value{Kind: integer, A: 258}, []byte{1, 2, 1, 0, 0, 0, 0, 0, 0}, 0},
		{api.Value{Kind: integer}, []byte{1, 0, 0, 0, 0, 0, 0, 0, 0}, 0},
		{api.Value{Kind: integer, A: -1}, []byte{1, 255, 255, 255, 255, 255, 255, 255, 255}, 0},
		{api.Value{Kind: integer, A: 0x0102030405060708}, []byte{1, 8, 7, 6, 5, 4, 3, 2, 1}, 0},
		{api.Value{Kind: integer, A: math.MaxInt64}, []byte{1, 255, 255, 255, 255, 255, 255, 255, 127}, 0},
		{api.Value{Kind: integer, A: math.MinInt64}, []byte{1, 0, 0, 0, 0, 0, 0, 0, 128}, 0},
		{api.Value{Kind: pair, A: -1, B: 2}, []byte{2, 255, 255, 15, 2, 0, 16}, 0},
		{api.Value{Kind: pair}, []byte{2, 0, 0, 16, 0, 0, 16}, 0},
		{api.Value{Kind: pair, A: m, B: -m}, []byte{2, 0, 0, 32, 0, 0, 0}, 0},
		{api.Value{Kind: pair, A: -m, B: m}, []byte{2, 0, 0, 0, 0, 0, 32}, 0},
		{api.Value{Kind: integer, A: 258, B: 1}, nil, api.ErrValue},
		{api.Value{Kind: pair, A: m + 1}, nil, api.ErrValue},
		{api.Value{Kind: pair, B: m + 1}, nil, api.ErrValue},
		{api.Value{Kind: pair, A: -m - 1}, nil, api.ErrValue},
		{api.Value{Kind: pair, B: -m - 1}, nil, api.ErrValue},
		{api.Value{Kind: pair, A: math.MinInt64}, nil, api.ErrValue},
		{api.Value{Kind: pair, B: math.MaxInt64}, nil, api.ErrValue},
		{api.Value{Kind: ref}, nil, api.ErrValue},
		{api.Value{Kind: ref, A: 7}, nil, api.ErrValue},
		{api.Value{Kind: ref, A: -1}, nil, api.ErrValue},
		{api.Value{}, nil, api.ErrValue},
		{api.Value{A: 258}, nil, api.ErrValue},
		{api.Value{Kind: 4}, nil, api.ErrValue},
		{api.Value{Kind: 255}, nil, api.ErrValue},
	} {
		if b, e := value.Bytes(x.v); !bytes.Equal(b, x.want) || e != x.e {
			t.Errorf("%d: Bytes(%v) = %v, %d", i, x.v, b, e)
		}
	}
	for _, v := range all() {
		var want []byte
		e := api.ErrValue
		if classed(v) == external {
			want, e = encoded(v), api.OK
		}
		if b, be := value.Bytes(v); !bytes.Equal(b, want) || be != e {
			t.Errorf("Bytes(%v) = %v, %d", v, b, be)
		}
	}
}

// reading is a call of Read, and what it is to return.
type reading struct {
	b    []byte
	at   int
	v    api.Value
	next int
	e    api.Errno
}

func compare(t *testing.T, l []reading) {
	t.Helper()
	for i, x := range l {
		if v, next, e := value.Read(x.b, x.at); v != x.v || next != x.next || e != x.e {
			t.Errorf("%d: Read(%v, %d) = %v, %d, %d", i, x.b, x.at, v, next, e)
		}
	}
}

// P3.4: ordinary encodings, at their edges and among other bytes.
func TestRead(t *testing.T) {
	compare(t, []reading{
		{[]byte{1, 2, 1, 0, 0, 0, 0, 0, 0}, 0, api.Value{Kind: integer, A: 258}, 9, 0},
		{[]byte{1, 0, 0, 0, 0, 0, 0, 0, 0}, 0, api.Value{Kind: integer}, 9, 0},
		{[]byte{1, 255, 255, 255, 255, 255, 255, 255, 255}, 0, api.Value{Kind: integer, A: -1}, 9, 0},
		{[]byte{1, 255, 255, 255, 255, 255, 255, 255, 127}, 0, api.Value{Kind: integer, A: math.MaxInt64}, 9, 0},
		{[]byte{1, 0, 0, 0, 0, 0, 0, 0, 128}, 0, api.Value{Kind: integer, A: math.MinInt64}, 9, 0},
		{[]byte{9, 9, 1, 8, 7, 6, 5, 4, 3, 2, 1, 9}, 2, api.Value{Kind: integer, A: 0x0102030405060708}, 11, 0},
		{[]byte{2, 255, 255, 15, 2, 0, 16}, 0, api.Value{Kind: pair, A: -1, B: 2}, 7, 0},
		{[]byte{2, 0, 0, 16, 0, 0, 16}, 0, api.Value{Kind: pair}, 7, 0},
		{[]byte{2, 0, 0, 0, 0, 0, 0}, 0, api.Value{Kind: pair, A: -m, B: -m}, 7, 0},
		{[]byte{2, 0, 0, 32, 0, 0, 32}, 0, api.Value{Kind: pair, A: m, B: m}, 7, 0},
		{[]byte{2, 2, 255, 255, 31, 1, 0, 0, 2}, 1, api.Value{Kind: pair, A: m - 1, B: 1 - m}, 8, 0},
	})
}

// P3.4: offsets below 0, at the end and beyond it; kinds that are none; parts above MaxPart.
func TestReadWrong(t *testing.T) {
	seven := []byte{2, 0, 0, 16, 0, 0, 16}
	compare(t, []reading{
		{seven, -1, api.Value{}, 0, api.ErrArg},
		{seven, math.MinInt, api.Value{}, 0, api.ErrArg},
		{seven, 8, api.Value{}, 0, api.ErrArg},
		{seven, math.MaxInt, api.Value{}, 0, api.ErrArg},
		{nil, -1, api.Value{}, 0, api.ErrArg},
		{nil, 1, api.Value{}, 0, api.ErrArg},
		{seven, 7, api.Value{}, 0, api.ErrShort},
		{nil, 0, api.Value{}, 0, api.ErrShort},
		{[]byte{}, 0, api.Value{}, 0, api.ErrShort},
		{[]byte{0}, 0, api.Value{}, 0, api.ErrValue},
		{[]byte{3}, 0, api.Value{}, 0, api.ErrValue},
		{[]byte{3, 0, 0, 0, 0, 0, 0, 0, 0}, 0, api.Value{}, 0, api.ErrValue},
		{[]byte{3, 7, 0, 0, 0, 0, 0, 0, 0}, 0, api.Value{}, 0, api.ErrValue},
		{[]byte{4, 0, 0, 16, 0, 0, 16}, 0, api.Value{}, 0, api.ErrValue},
		{seven, 3, api.Value{}, 0, api.ErrValue},
		{[]byte{2, 1, 0, 32, 0, 0, 0}, 0, api.Value{}, 0, api.ErrValue},
		{[]byte{2, 0, 0, 0, 1, 0, 32}, 0, api.Value{}, 0, api.ErrValue},
		{[]byte{2, 1, 0, 32, 1, 0, 32}, 0, api.Value{}, 0, api.ErrValue},
		{[]byte{2, 255, 255, 255, 0, 0, 16}, 0, api.Value{}, 0, api.ErrValue},
		{[]byte{2, 0, 0, 16, 255, 255, 255}, 0, api.Value{}, 0, api.ErrValue},
		{[]byte{2, 0, 0, 16, 0, 0, 128}, 0, api.Value{}, 0, api.ErrValue},
	})
	for kind := range 256 {
		if kind == 1 || kind == 2 {
			continue
		}
		for size := 1; size <= 10; size++ {
			b := make([]byte, size)
			b[0] = byte(kind)
			compare(t, []reading{{b, 0, api.Value{}, 0, api.ErrValue}})
		}
	}
}

// P3.4: each number of missing bytes; that some are missing comes before a part above MaxPart.
func TestReadShort(t *testing.T) {
	whole := [][]byte{
		{1, 2, 1, 0, 0, 0, 0, 0, 0},
		{1, 255, 255, 255, 255, 255, 255, 255, 255},
		{2, 255, 255, 15, 2, 0, 16},
		{2, 1, 0, 32, 0, 0, 0},
		{2, 255, 255, 255, 255, 255, 255},
	}
	for _, before := range [][]byte{nil, {0}, {1, 1, 1, 1, 1, 1, 1, 1, 1, 1}} {
		for _, b := range whole {
			for size := range len(b) {
				laid := append(append([]byte{}, before...), b[:size]...)
				compare(t, []reading{{laid, len(before), api.Value{}, 0, api.ErrShort}})
			}
		}
	}
}

// P3.4: bytes between the length and the capacity of the input do not belong to it.
func TestBeyondLength(t *testing.T) {
	for _, b := range [][]byte{{1, 2, 1, 0, 0, 0, 0, 0, 0}, {2, 255, 255, 15, 2, 0, 16}} {
		for size := range len(b) {
			compare(t, []reading{
				{b[:size], 0, api.Value{}, 0, api.ErrShort},
				{b[:size], size + 1, api.Value{}, 0, api.ErrArg},
			})
		}
	}
}

// P3.5: a value is read back from its encoding, wherever that stands and whatever surrounds it.
func TestRoundTrip(t *testing.T) {
	for _, v := range externals() {
		b, e := value.Bytes(v)
		if e != 0 {
			t.Fatalf("Bytes(%v): %d", v, e)
		}
		for _, f := range [][2][]byte{{nil, nil}, {{0}, {0}}, {{255, 1}, {255}}, {{2, 2, 2, 2, 2, 2}, {1}}, {make([]byte, 300), {2, 0, 0, 16, 0, 0, 16}}} {
			laid := append(append(append([]byte{}, f[0]...), b...), f[1]...)
			w, next, e := value.Read(laid, len(f[0]))
			if w != v || next != len(f[0])+len(b) || e != 0 {
				t.Errorf("%v comes back as %v, %d, %d", v, w, next, e)
			}
		}
	}
}

// P3.5: values are read one behind the other.
func TestInRow(t *testing.T) {
	var row []byte
	for _, v := range externals() {
		b, _ := value.Bytes(v)
		row = append(row, b...)
	}
	at := 0
	for _, v := range externals() {
		w, next, e := value.Read(row, at)
		if w != v || e != 0 {
			t.Fatalf("%v at %d comes back as %v, %d", v, at, w, e)
		}
		at = next
	}
	if at != len(row) {
		t.Errorf("the last one ends at %d of %d", at, len(row))
	}
}

// threes returns the bytes of fields of a pair, within the edges and beyond them.
func threes() [][]byte {
	return [][]byte{{0, 0, 0}, {1, 0, 0}, {255, 255, 15}, {0, 0, 16}, {1, 2, 3}, {255, 255, 31}, {0, 0, 32}, {1, 0, 32}, {0, 1, 32}, {0, 0, 33}, {0, 0, 48}, {0, 0, 64}, {0, 0, 128}, {255, 255, 255}}
}

// P3.5: the encoding of what was read consists of the bytes that were read, and only a part above MaxPart hinders reading.
func TestRoundTripOfBytes(t *testing.T) {
	read := 0
	for _, x := range threes() {
		for _, y := range threes() {
			for kind := range 256 {
				b := append(append(append([]byte{9, byte(kind)}, x...), y...), 255, 128)
				v, next, e := value.Read(b, 1)
				if e != 0 {
					continue
				}
				read++
				if again, e := value.Bytes(v); !bytes.Equal(again, b[1:next]) || e != 0 || classed(v) != external {
					t.Errorf("%v is read as %v, and encoded as %v, %d", b, v, again, e)
				}
			}
		}
	}
	if n := len(threes()); read != n*n+7*7 {
		t.Errorf("%d values are read", read)
	}
}

// P3.6: no encoding stands for two values, or is the beginning of another one.
func TestUnique(t *testing.T) {
	l := externals()
	encodings := make([][]byte, len(l))
	for i, v := range l {
		encodings[i], _ = value.Bytes(v)
		if len(encodings[i]) == 0 {
			t.Fatalf("%v has no encoding", v)
		}
	}
	for i, a := range encodings {
		for j, b := range encodings {
			if i != j && bytes.HasPrefix(b, a) {
				t.Errorf("%v and %v: %v and %v", l[i], l[j], a, b)
			}
		}
	}
}

// Rules: what is passed is not changed, and what is returned is other memory.
func TestOtherMemory(t *testing.T) {
	memory := []byte{9, 2, 255, 255, 15, 2, 0, 16, 9, 9}
	kept := bytes.Clone(memory)
	value.Read(memory[:8], 1)
	value.Read(memory[:5], 1)
	if !bytes.Equal(memory, kept) {
		t.Errorf("what was passed has become %v", memory)
	}
	v := api.Value{Kind: pair, A: -1, B: 2}
	b, _ := value.Bytes(v)
	b = append(b, 1, 2, 3)
	for i := range b {
		b[i] = 99
	}
	if again, e := value.Bytes(v); !bytes.Equal(again, kept[1:8]) || e != 0 {
		t.Errorf("two answers share memory: %v, %d", again, e)
	}
	if again, _, e := value.Read(kept, 1); again != v || e != 0 {
		t.Errorf("Read after that: %v, %d", again, e)
	}
}
