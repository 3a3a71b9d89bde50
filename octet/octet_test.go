package octet_test

import (
	"bytes"
	"math"
	"testing"

	"capstan/api"
	"capstan/octet"
)

// greatest returns the greatest integer that has an encoding of this width.
func greatest(width int) int {
	if width == 8 {
		return math.MaxInt
	}
	return 1<<(8*width) - 1
}

// samples returns integers that have an encoding of this width: its ends, and those about each power of 256.
func samples(width int) []int {
	l := []int{0, 1, 2, 127, 128, 200, 254, 255}
	for w := 1; w < width; w++ {
		p := 1 << (8 * w)
		l = append(l, p, p+1, p+258, 0x5a*p-1, 0x5a*p, 0x5a*p+3)
		if w < 7 {
			l = append(l, p*255, p*256-1)
		}
	}
	if width == 8 {
		l = append(l, math.MaxInt-1, math.MaxInt)
	}
	return l
}

// signedSamples returns signed integers, the least and the greatest among them.
func signedSamples() []int64 {
	l := []int64{0, 1, 2, 127, 128, 255, 256, 258, 65535, 65536, 1<<31 - 1, 1 << 31, 1<<32 - 1, 1 << 56, 0x0102030405060708, math.MaxInt64 - 1, math.MaxInt64}
	out := []int64{math.MinInt64}
	for i := len(l) - 1; i > 0; i-- {
		out = append(out, -l[i])
	}
	return append(out, l...)
}

// rows returns byte strings, the empty ones and the longest among them.
func rows() [][]byte {
	l := [][]byte{nil, {}, {0}, {255}, {2, 0, 7}, {7, 8}}
	for _, n := range []int{255, 256, 257, 65534, 65535} {
		b := make([]byte, n)
		for i := range b {
			b[i] = byte(i*7 + i/256 + 1)
		}
		l = append(l, b)
	}
	return l
}

// P1.1: ordinary integers, the ends of each width, widths that there are not, and which error is the first.
func TestPut(t *testing.T) {
	for i, x := range []struct {
		width, n int
		want     []byte
		e        api.Errno
	}{
		{2, 258, []byte{2, 1}, 0},
		{1, 0, []byte{0}, 0},
		{1, 7, []byte{7}, 0},
		{1, 255, []byte{255}, 0},
		{3, 0x010203, []byte{3, 2, 1}, 0},
		{4, 1, []byte{1, 0, 0, 0}, 0},
		{8, 0x0102030405060708, []byte{8, 7, 6, 5, 4, 3, 2, 1}, 0},
		{8, 0, make([]byte, 8), 0},
		{8, math.MaxInt, []byte{255, 255, 255, 255, 255, 255, 255, 127}, 0},
		{1, 256, nil, api.ErrWide},
		{1, math.MaxInt, nil, api.ErrWide},
		{1, -1, nil, api.ErrWide},
		{8, -1, nil, api.ErrWide},
		{8, math.MinInt, nil, api.ErrWide},
		{7, math.MinInt, nil, api.ErrWide},
		{0, 0, nil, api.ErrArg},
		{9, 0, nil, api.ErrArg},
		{16, 1, nil, api.ErrArg},
		{-1, 0, nil, api.ErrArg},
		{-8, 0, nil, api.ErrArg},
		{math.MinInt, 0, nil, api.ErrArg},
		{math.MaxInt, 0, nil, api.ErrArg},
		{0, -1, nil, api.ErrArg},
		{9, -1, nil, api.ErrArg},
		{-1, math.MinInt, nil, api.ErrArg},
		{0, math.MaxInt, nil, api.ErrArg},
	} {
		if b, e := octet.Put(x.width, x.n); !bytes.Equal(b, x.want) || e != x.e {
			t.Errorf("%d: Put(%d, %d) = %v, %d", i, x.width, x.n, b, e)
		}
	}
}

// P1.1: at the upper end of each width.
func TestPutEnds(t *testing.T) {
	for width := 1; width <= 8; width++ {
		want := bytes.Repeat([]byte{255}, width)
		if width == 8 {
			want[7] = 127
		}
		if b, e := octet.Put(width, greatest(width)); !bytes.Equal(b, want) || e != 0 {
			t.Errorf("width %d: the greatest: %v, %d", width, b, e)
		}
		if b, e := octet.Put(width, 0); !bytes.Equal(b, make([]byte, width)) || e != 0 {
			t.Errorf("width %d: 0: %v, %d", width, b, e)
		}
		if b, e := octet.Put(width, -1); len(b) != 0 || e != api.ErrWide {
			t.Errorf("width %d: -1: %v, %d", width, b, e)
		}
		if width == 8 {
			continue
		}
		if b, e := octet.Put(width, greatest(width)+1); len(b) != 0 || e != api.ErrWide {
			t.Errorf("width %d: beyond: %v, %d", width, b, e)
		}
	}
}

// P1.1.
func TestSigned(t *testing.T) {
	for i, x := range []struct {
		n    int64
		want []byte
	}{
		{0, make([]byte, 8)},
		{1, []byte{1, 0, 0, 0, 0, 0, 0, 0}},
		{-1, []byte{255, 255, 255, 255, 255, 255, 255, 255}},
		{-2, []byte{254, 255, 255, 255, 255, 255, 255, 255}},
		{-256, []byte{0, 255, 255, 255, 255, 255, 255, 255}},
		{0x0102030405060708, []byte{8, 7, 6, 5, 4, 3, 2, 1}},
		{math.MaxInt64, []byte{255, 255, 255, 255, 255, 255, 255, 127}},
		{math.MinInt64, []byte{0, 0, 0, 0, 0, 0, 0, 128}},
		{math.MinInt64 + 1, []byte{1, 0, 0, 0, 0, 0, 0, 128}},
	} {
		if b := octet.Signed(x.n); !bytes.Equal(b, x.want) {
			t.Errorf("%d: Signed(%d) = %v", i, x.n, b)
		}
	}
}

// P1.1: the byte string stands behind its length; one of 65536 bytes has no encoding.
func TestRow(t *testing.T) {
	for _, x := range rows() {
		want := append([]byte{byte(len(x) % 256), byte(len(x) / 256)}, x...)
		if b, e := octet.Row(x); !bytes.Equal(b, want) || e != 0 {
			t.Errorf("a row of %d bytes: %d bytes, %d", len(x), len(b), e)
		}
	}
	for _, n := range []int{65536, 65537, 1 << 17} {
		if b, e := octet.Row(make([]byte, n)); len(b) != 0 || e != api.ErrLong {
			t.Errorf("a row of %d bytes: %d bytes, %d", n, len(b), e)
		}
	}
}

// P1.2: ordinary encodings, offsets below 0, at the end and beyond it, widths that there are not, and which error is the first.
func TestGet(t *testing.T) {
	high := bytes.Repeat([]byte{255}, 8)
	top := []byte{0, 0, 0, 0, 0, 0, 0, 128}
	for i, x := range []struct {
		b         []byte
		at, width int
		n, next   int
		e         api.Errno
	}{
		{[]byte{1, 2, 3}, 1, 2, 770, 3, 0},
		{[]byte{1, 2, 3}, 0, 2, 513, 2, 0},
		{[]byte{1, 2, 3}, 2, 1, 3, 3, 0},
		{[]byte{1, 2, 3}, 0, 3, 0x030201, 3, 0},
		{[]byte{255}, 0, 1, 255, 1, 0},
		{high, 0, 7, 1<<56 - 1, 7, 0},
		{high, 1, 7, 1<<56 - 1, 8, 0},
		{[]byte{255, 255, 255, 255, 255, 255, 255, 127}, 0, 8, math.MaxInt, 8, 0},
		{[]byte{8, 7, 6, 5, 4, 3, 2, 1}, 0, 8, 0x0102030405060708, 8, 0},
		{top, 0, 8, 0, 0, api.ErrWide},
		{high, 0, 8, 0, 0, api.ErrWide},
		{append([]byte{9}, top...), 1, 8, 0, 0, api.ErrWide},
		{[]byte{1, 2, 3}, 2, 2, 0, 0, api.ErrShort},
		{[]byte{1, 2, 3}, 0, 4, 0, 0, api.ErrShort},
		{[]byte{1, 2, 3}, 3, 1, 0, 0, api.ErrShort},
		{high, 1, 8, 0, 0, api.ErrShort}, // would be too wide if a byte more stood there
		{nil, 0, 1, 0, 0, api.ErrShort},
		{[]byte{}, 0, 8, 0, 0, api.ErrShort},
		{[]byte{1, 2, 3}, 4, 1, 0, 0, api.ErrArg},
		{[]byte{1, 2, 3}, 4, 8, 0, 0, api.ErrArg},
		{[]byte{1, 2, 3}, -1, 1, 0, 0, api.ErrArg},
		{[]byte{1, 2, 3}, -1, 8, 0, 0, api.ErrArg},
		{[]byte{1, 2, 3}, math.MaxInt, 8, 0, 0, api.ErrArg},
		{[]byte{1, 2, 3}, math.MinInt, 8, 0, 0, api.ErrArg},
		{nil, 1, 1, 0, 0, api.ErrArg},
		{nil, -1, 1, 0, 0, api.ErrArg},
		{[]byte{1, 2, 3}, 0, 0, 0, 0, api.ErrArg},
		{[]byte{1, 2, 3}, 3, 0, 0, 0, api.ErrArg},
		{[]byte{1, 2, 3}, 0, 9, 0, 0, api.ErrArg},
		{make([]byte, 20), 0, 9, 0, 0, api.ErrArg},
		{[]byte{1, 2, 3}, 0, -1, 0, 0, api.ErrArg},
		{[]byte{1, 2, 3}, 2, -1, 0, 0, api.ErrArg},
		{[]byte{1, 2, 3}, 0, math.MaxInt, 0, 0, api.ErrArg},
		{[]byte{1, 2, 3}, 0, math.MinInt, 0, 0, api.ErrArg},
		{[]byte{1, 2, 3}, 9, 9, 0, 0, api.ErrArg},
	} {
		if n, next, e := octet.Get(x.b, x.at, x.width); n != x.n || next != x.next || e != x.e {
			t.Errorf("%d: Get(%v, %d, %d) = %d, %d, %d", i, x.b, x.at, x.width, n, next, e)
		}
	}
}

// P1.2.
func TestGetSigned(t *testing.T) {
	for i, x := range []struct {
		b    []byte
		at   int
		n    int64
		next int
		e    api.Errno
	}{
		{[]byte{254, 255, 255, 255, 255, 255, 255, 255}, 0, -2, 8, 0},
		{[]byte{9, 0, 0, 0, 0, 0, 0, 0, 128, 9}, 1, math.MinInt64, 9, 0},
		{[]byte{255, 255, 255, 255, 255, 255, 255, 127}, 0, math.MaxInt64, 8, 0},
		{[]byte{8, 7, 6, 5, 4, 3, 2, 1}, 0, 0x0102030405060708, 8, 0},
		{make([]byte, 7), 0, 0, 0, api.ErrShort},
		{make([]byte, 8), 1, 0, 0, api.ErrShort},
		{make([]byte, 8), 8, 0, 0, api.ErrShort},
		{nil, 0, 0, 0, api.ErrShort},
		{make([]byte, 8), 9, 0, 0, api.ErrArg},
		{make([]byte, 8), -1, 0, 0, api.ErrArg},
		{make([]byte, 8), math.MaxInt, 0, 0, api.ErrArg},
		{make([]byte, 8), math.MinInt, 0, 0, api.ErrArg},
		{nil, 1, 0, 0, api.ErrArg},
	} {
		if n, next, e := octet.GetSigned(x.b, x.at); n != x.n || next != x.next || e != x.e {
			t.Errorf("%d: GetSigned(%v, %d) = %d, %d, %d", i, x.b, x.at, n, next, e)
		}
	}
}

// P1.2.
func TestGetRow(t *testing.T) {
	for i, x := range []struct {
		b    []byte
		at   int
		row  []byte
		next int
		e    api.Errno
	}{
		{[]byte{2, 0, 7, 8}, 0, []byte{7, 8}, 4, 0},
		{[]byte{9, 2, 0, 7, 8, 9}, 1, []byte{7, 8}, 5, 0},
		{[]byte{0, 0}, 0, nil, 2, 0},
		{[]byte{9, 0, 0, 9}, 1, nil, 3, 0},
		{[]byte{3, 0, 7, 8}, 0, nil, 0, api.ErrShort},
		{[]byte{0, 1, 7, 8}, 0, nil, 0, api.ErrShort},
		{[]byte{255, 255}, 0, nil, 0, api.ErrShort},
		{[]byte{1, 0}, 0, nil, 0, api.ErrShort},
		{[]byte{0}, 0, nil, 0, api.ErrShort},
		{[]byte{0, 0}, 1, nil, 0, api.ErrShort},
		{[]byte{0, 0}, 2, nil, 0, api.ErrShort},
		{nil, 0, nil, 0, api.ErrShort},
		{[]byte{0, 0}, 3, nil, 0, api.ErrArg},
		{[]byte{0, 0}, -1, nil, 0, api.ErrArg},
		{[]byte{0, 0}, math.MaxInt, nil, 0, api.ErrArg},
		{[]byte{0, 0}, math.MinInt, nil, 0, api.ErrArg},
		{nil, 1, nil, 0, api.ErrArg},
	} {
		row, next, e := octet.GetRow(x.b, x.at)
		if !bytes.Equal(row, x.row) || next != x.next || e != x.e {
			t.Errorf("%d: GetRow(%v, %d) = %v, %d, %d", i, x.b, x.at, row, next, e)
		}
	}
}

// P1.2: bytes between the length and the capacity of the input do not belong to it.
func TestBeyondLength(t *testing.T) {
	b := []byte{2, 0, 7, 8, 9, 9, 9, 9, 9, 9, 9, 9}
	if n, next, e := octet.Get(b[:1], 0, 2); n != 0 || next != 0 || e != api.ErrShort {
		t.Errorf("Get: %d, %d, %d", n, next, e)
	}
	if n, next, e := octet.GetSigned(b[:7], 0); n != 0 || next != 0 || e != api.ErrShort {
		t.Errorf("GetSigned: %d, %d, %d", n, next, e)
	}
	if row, next, e := octet.GetRow(b[:3], 0); len(row) != 0 || next != 0 || e != api.ErrShort {
		t.Errorf("GetRow: %v, %d, %d", row, next, e)
	}
	if _, _, e := octet.Get(b[:1], 2, 1); e != api.ErrArg {
		t.Errorf("Get: %d", e)
	}
}

// frames returns what may surround an encoding.
func frames() [][2][]byte {
	return [][2][]byte{
		{nil, nil},
		{{0}, {0}},
		{{255}, {255, 255, 255, 255, 255, 255, 255, 255}},
		{{2, 0, 7, 8}, {1}},
		{make([]byte, 300), {128}},
	}
}

// laid returns b with the frame about it.
func laid(frame [2][]byte, b []byte) []byte {
	return append(append(append([]byte{}, frame[0]...), b...), frame[1]...)
}

// P1.3: what was encoded is decoded, wherever it stands.
func TestRoundTripOfIntegers(t *testing.T) {
	for width := 1; width <= 8; width++ {
		for _, n := range samples(width) {
			b, e := octet.Put(width, n)
			if len(b) != width || e != 0 {
				t.Fatalf("Put(%d, %d) = %v, %d", width, n, b, e)
			}
			for _, f := range frames() {
				m, next, e := octet.Get(laid(f, b), len(f[0]), width)
				if m != n || next != len(f[0])+width || e != 0 {
					t.Errorf("width %d: %d comes back as %d, %d, %d", width, n, m, next, e)
				}
			}
		}
	}
}

// P1.3.
func TestRoundTripOfSigned(t *testing.T) {
	for _, n := range signedSamples() {
		b := octet.Signed(n)
		for _, f := range frames() {
			m, next, e := octet.GetSigned(laid(f, b), len(f[0]))
			if m != n || next != len(f[0])+8 || e != 0 {
				t.Errorf("%d comes back as %d, %d, %d", n, m, next, e)
			}
		}
	}
}

// P1.3.
func TestRoundTripOfRows(t *testing.T) {
	for _, x := range rows() {
		b, e := octet.Row(x)
		if e != 0 {
			t.Fatalf("a row of %d bytes: %d", len(x), e)
		}
		for _, f := range frames() {
			row, next, e := octet.GetRow(laid(f, b), len(f[0]))
			if !bytes.Equal(row, x) || next != len(f[0])+2+len(x) || e != 0 {
				t.Errorf("a row of %d bytes comes back as %d, %d, %d", len(x), len(row), next, e)
			}
		}
	}
}

// P1.3: what was decoded is encoded as the same bytes.
func TestRoundTripOfBytes(t *testing.T) {
	b := []byte{4, 0, 255, 254, 0, 0, 128, 127, 1, 0, 255, 255, 255, 255, 255, 255, 255, 255, 3, 2, 1, 0, 0, 0}
	for at := range b {
		for width := 1; width <= 8; width++ {
			if n, next, e := octet.Get(b, at, width); e == 0 {
				if again, e := octet.Put(width, n); !bytes.Equal(again, b[at:next]) || e != 0 {
					t.Errorf("Get at %d, width %d: %v, %d", at, width, again, e)
				}
			}
		}
		if n, next, e := octet.GetSigned(b, at); e == 0 && !bytes.Equal(octet.Signed(n), b[at:next]) {
			t.Errorf("GetSigned at %d: %v", at, octet.Signed(n))
		}
		if row, next, e := octet.GetRow(b, at); e == 0 {
			if again, e := octet.Row(row); !bytes.Equal(again, b[at:next]) || e != 0 {
				t.Errorf("GetRow at %d: %v, %d", at, again, e)
			}
		}
	}
}

// P1.4: without its last byte an encoding is too short, wherever it begins.
func TestTruncation(t *testing.T) {
	for _, before := range [][]byte{nil, {1}, {0, 0, 0, 0, 0, 0, 0, 0, 0}} {
		at := len(before)
		cut := func(b []byte) []byte { return append(append([]byte{}, before...), b[:len(b)-1]...) }
		for width := 1; width <= 8; width++ {
			for _, n := range samples(width) {
				b, _ := octet.Put(width, n)
				if n, next, e := octet.Get(cut(b), at, width); n != 0 || next != 0 || e != api.ErrShort {
					t.Errorf("width %d: %d, %d, %d", width, n, next, e)
				}
			}
		}
		for _, n := range signedSamples() {
			if n, next, e := octet.GetSigned(cut(octet.Signed(n)), at); n != 0 || next != 0 || e != api.ErrShort {
				t.Errorf("signed: %d, %d, %d", n, next, e)
			}
		}
		for _, x := range rows() {
			b, _ := octet.Row(x)
			if row, next, e := octet.GetRow(cut(b), at); len(row) != 0 || next != 0 || e != api.ErrShort {
				t.Errorf("a row of %d bytes: %d, %d, %d", len(x), len(row), next, e)
			}
		}
	}
}

// above tells whether a is greater than b, both compared from the most significant byte on, which is the last.
func above(a, b []byte) bool {
	for i := len(a) - 1; i >= 0; i-- {
		if a[i] != b[i] {
			return a[i] > b[i]
		}
	}
	return false
}

// P1.5.
func TestOrder(t *testing.T) {
	for width := 1; width <= 8; width++ {
		l := samples(width)
		for _, n := range l {
			for _, m := range l {
				a, _ := octet.Put(width, n)
				b, _ := octet.Put(width, m)
				if len(a) != width || len(b) != width || above(a, b) != (n > m) {
					t.Errorf("width %d: %d and %d: %v and %v", width, n, m, a, b)
				}
			}
		}
	}
}

// Rules: what is passed is not changed, neither within its length nor beyond it, and what is returned is other memory.
func TestOtherMemory(t *testing.T) {
	memory := []byte{2, 0, 7, 8, 5, 5, 5, 5, 5, 5, 5, 5}
	kept := bytes.Clone(memory)
	given := memory[:4]
	b, _ := octet.Row(given)
	row, _, _ := octet.GetRow(given, 0)
	octet.Get(given, 0, 4)
	octet.GetSigned(memory[:8], 0)
	for _, out := range [][]byte{b, row} {
		out = append(out, 1, 2, 3)
		for i := range out {
			out[i] = 99
		}
	}
	if !bytes.Equal(memory, kept) {
		t.Errorf("what was passed has become %v", memory)
	}
	row, _, _ = octet.GetRow(given, 0)
	memory[2], memory[3] = 1, 1
	if !bytes.Equal(row, []byte{7, 8}) {
		t.Errorf("the row follows its input: %v", row)
	}
	one, _ := octet.Put(2, 258)
	one[0] = 77
	if two, _ := octet.Put(2, 258); !bytes.Equal(two, []byte{2, 1}) {
		t.Errorf("two answers share memory: %v", two)
	}
	minus := octet.Signed(-1)
	minus[0] = 77
	if again := octet.Signed(-1); again[0] != 255 {
		t.Errorf("two answers share memory: %v", again)
	}
}
