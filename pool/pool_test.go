package pool_test

import (
	"bytes"
	"encoding/binary"
	"math"
	"slices"
	"testing"

	"capstan/api"
	"capstan/pool"
)

const most = 1 << 20 // what a part of a pair comes to at most

func integer(n int64) api.Value { return api.Value{Kind: 1, A: n} }

func pair(a, b int64) api.Value { return api.Value{Kind: 2, A: a, B: b} }

// external returns external values of both kinds, up to what they may hold, each once.
func external() []api.Value {
	var l []api.Value
	for _, n := range []int64{0, 1, 2, -1, 4, 5, 255, 256, 258, -256, most, -most, most + 1, -most - 1, 1 << 32, math.MaxInt64, math.MinInt64} {
		l = append(l, integer(n))
	}
	parts := []int64{0, 1, -1, 2, most - 1, most, 1 - most, -most}
	for _, a := range parts {
		for _, b := range parts {
			l = append(l, pair(a, b))
		}
	}
	return l
}

// strange returns values that are not external: of no kind, arrays, with a B that an integer has not, with parts beyond their ends.
func strange() []api.Value {
	l := []api.Value{
		{}, {A: 1}, {B: 1}, {Kind: 3}, {Kind: 3, A: 1}, {Kind: 3, A: -1}, {Kind: 4}, {Kind: 4, A: 1}, {Kind: 255}, {Kind: 128}, {Kind: 129},
		{Kind: 1, B: 1}, {Kind: 1, B: -1}, {Kind: 1, A: 5, B: 5}, {Kind: 1, B: math.MinInt64}, {Kind: 1, B: 1 << 32},
	}
	for _, n := range []int64{most + 1, -most - 1, 2 * most, 1 << 32, 1 << 24, math.MaxInt64, math.MinInt64} {
		l = append(l, pair(n, 0), pair(0, n), pair(n, n), pair(n, -n), pair(most, n), pair(n, -most))
	}
	return l
}

// row returns n values, each once, of both kinds.
func row(n int) []api.Value {
	l := make([]api.Value, n)
	for i := range l {
		if l[i] = integer(int64(i) * 1000003); i%3 == 1 {
			l[i] = pair(int64(i), int64(-i))
		}
	}
	return l
}

// pools returns pools of each length, in which each of the external values stands somewhere.
func pools() [][]api.Value {
	all := external()
	at := 0
	var l [][]api.Value
	for range 3 {
		for n := 0; n <= 32; n++ {
			one := make([]api.Value, n)
			for k := range one {
				one[k] = all[at%len(all)]
				at++
			}
			l = append(l, one)
		}
	}
	l = append(l, nil, slices.Repeat([]api.Value{integer(1)}, 2), slices.Repeat([]api.Value{integer(math.MinInt64)}, 32), slices.Repeat([]api.Value{pair(most, -most)}, 32))
	for n := range 33 {
		l = append(l, row(n))
	}
	return l
}

// noPools returns sequences that are not pools: of too many values, or with one that is not external at either end or between.
func noPools() [][]api.Value {
	l := [][]api.Value{row(33), row(34), row(64), row(255), row(256), row(257), row(288), row(512), make([]api.Value, 33), make([]api.Value, 1)}
	l = append(l, slices.Repeat([]api.Value{integer(1)}, 33))
	for _, v := range strange() {
		l = append(l, []api.Value{v}, []api.Value{v, integer(1)}, []api.Value{integer(1), v}, []api.Value{integer(1), v, pair(1, 1)}, []api.Value{v, v})
		for _, at := range []int{0, 15, 31} {
			full := row(32)
			full[at] = v
			l = append(l, full)
		}
	}
	return l
}

// part returns by the chapters' own words the encoding of a part of a pair.
func part(n int64) []byte {
	n += most
	return []byte{byte(n % 256), byte(n / 256 % 256), byte(n / 65536)}
}

// encoded returns by the chapters' own words the encoding of a pool.
func encoded(l []api.Value) []byte {
	b := []byte{byte(len(l))}
	for _, v := range l {
		b = append(b, v.Kind)
		if v.Kind == 1 {
			b = binary.LittleEndian.AppendUint64(b, uint64(v.A))
			continue
		}
		b = append(append(b, part(v.A)...), part(v.B)...)
	}
	return b
}

// reading is a call of Read, and what it is to return.
type reading struct {
	b    []byte
	at   int
	l    []api.Value
	next int
	e    api.Errno
}

func compare(t *testing.T, l ...reading) {
	t.Helper()
	for i, x := range l {
		if m, next, e := pool.Read(x.b, x.at); !slices.Equal(m, x.l) || next != x.next || e != x.e {
			t.Errorf("%d: Read(%v, %d) = %v, %d, %d", i, x.b, x.at, m, next, e)
		}
	}
}

// refused compares a Read of each of these, from offset at on, with an error and nothing beside it.
func refused(t *testing.T, e api.Errno, at int, l ...[]byte) {
	t.Helper()
	for _, b := range l {
		compare(t, reading{b, at, nil, 0, e})
	}
}

// adding is a call of Add, and what it is to return.
type adding struct {
	l   []api.Value
	v   api.Value
	out []api.Value
	at  int
	e   api.Errno
}

func compareAdd(t *testing.T, l ...adding) {
	t.Helper()
	for i, x := range l {
		if out, at, e := pool.Add(x.l, x.v); !slices.Equal(out, x.out) || at != x.at || e != x.e {
			t.Errorf("%d: Add(%v, %v) = %v, %d, %d", i, x.l, x.v, out, at, e)
		}
	}
}

// The values and pools of these tests are what they are said to be.
func TestRows(t *testing.T) {
	seen := map[api.Value]int{}
	for _, l := range pools()[:99] {
		for _, v := range l {
			seen[v]++
		}
	}
	if len(seen) != len(external()) {
		t.Errorf("%d of %d values stand in a pool", len(seen), len(external()))
	}
	if api.MaxPool != 32 || api.MaxPart != most || api.KdInt != 1 || api.KdPair != 2 || api.KdRef != 3 {
		t.Error("api has other numbers")
	}
	for _, n := range []int{32, 33, 512} {
		for i, v := range row(n) {
			if slices.Index(row(n), v) != i {
				t.Errorf("%v stands twice in a row of %d", v, n)
			}
		}
	}
}

// P6.1: pools of each length, with values of both kinds.
func TestMay(t *testing.T) {
	for _, l := range pools() {
		if !pool.May(l) {
			t.Errorf("May = false of %d values, %v", len(l), l)
		}
	}
	for _, v := range external() {
		if !pool.May([]api.Value{v}) {
			t.Errorf("May = false of %v", v)
		}
	}
}

// P6.1: what is not a pool.
func TestMayNot(t *testing.T) {
	for _, l := range noPools() {
		if pool.May(l) {
			t.Errorf("May = true of %d values, %v", len(l), l)
		}
	}
}

// P6.1: the chapter's examples.
func TestBytesExamples(t *testing.T) {
	one := []byte{1, 1, 0, 0, 0, 0, 0, 0, 0}
	if b, e := pool.Bytes([]api.Value{integer(1), integer(1)}); !bytes.Equal(b, slices.Concat([]byte{2}, one, one)) || e != 0 {
		t.Errorf("Bytes = %v, %d", b, e)
	}
	for _, l := range [][]api.Value{nil, {}} {
		if b, e := pool.Bytes(l); !bytes.Equal(b, []byte{0}) || e != 0 {
			t.Errorf("Bytes = %v, %d", b, e)
		}
	}
	if b, e := pool.Bytes([]api.Value{pair(-1, 2)}); !bytes.Equal(b, []byte{1, 2, 255, 255, 15, 2, 0, 16}) || e != 0 {
		t.Errorf("Bytes = %v, %d", b, e)
	}
}

// P6.1: the encoding of pools of each length.
func TestBytes(t *testing.T) {
	for _, l := range pools() {
		if b, e := pool.Bytes(l); !bytes.Equal(b, encoded(l)) || e != 0 {
			t.Errorf("Bytes of %d values, %v = %v, %d", len(l), l, b, e)
		}
	}
}

// P6.1: what is not a pool has no encoding; the error is the pool's, not the value's.
func TestBytesWrong(t *testing.T) {
	for _, l := range noPools() {
		if b, e := pool.Bytes(l); len(b) != 0 || e != 60 {
			t.Errorf("Bytes of %d values, %v = %v, %d", len(l), l, b, e)
		}
	}
}

// P6.2: ordinary encodings, alone and among other bytes.
func TestRead(t *testing.T) {
	compare(t, []reading{
		{[]byte{0}, 0, nil, 1, 0},
		{[]byte{0, 0}, 0, nil, 1, 0},
		{[]byte{0, 0}, 1, nil, 2, 0},
		{[]byte{0, 255}, 0, nil, 1, 0},
		{[]byte{255, 0, 33}, 1, nil, 2, 0},
		{[]byte{1, 1, 2, 1, 0, 0, 0, 0, 0, 0}, 0, []api.Value{integer(258)}, 10, 0},
		{[]byte{1, 1, 255, 255, 255, 255, 255, 255, 255, 255}, 0, []api.Value{integer(-1)}, 10, 0},
		{[]byte{1, 2, 255, 255, 15, 2, 0, 16}, 0, []api.Value{pair(-1, 2)}, 8, 0},
		{[]byte{1, 2, 255, 255, 15, 2, 0, 16, 1, 2}, 0, []api.Value{pair(-1, 2)}, 8, 0},
		{[]byte{9, 1, 2, 0, 0, 0, 0, 0, 32, 9}, 1, []api.Value{pair(-most, most)}, 9, 0},
		{[]byte{2, 2, 0, 0, 16, 0, 0, 16, 1, 7, 0, 0, 0, 0, 0, 0, 0}, 0, []api.Value{pair(0, 0), integer(7)}, 17, 0},
		{[]byte{2, 1, 7, 0, 0, 0, 0, 0, 0, 0, 1, 7, 0, 0, 0, 0, 0, 0, 0}, 0, []api.Value{integer(7), integer(7)}, 19, 0},
	}...)
}

// P6.2: offsets below 0, at the end and beyond it.
func TestReadOffset(t *testing.T) {
	for _, b := range [][]byte{nil, {}, {0}, {33}, {1, 3}, {1, 1, 0, 0, 0, 0, 0, 0, 0, 0}, make([]byte, 300)} {
		for _, at := range []int{-1, -2, -256, -1 << 32, math.MinInt, math.MinInt + 1, len(b) + 1, len(b) + 2, len(b) + 256, len(b) + 1<<32, math.MaxInt - 1, math.MaxInt} {
			refused(t, api.ErrArg, at, b)
		}
		refused(t, api.ErrShort, len(b), b)
	}
}

// P6.2: counts up to 32 are followed by values; those above are refused at once, whether anything follows or not.
func TestReadCount(t *testing.T) {
	for count := range 256 {
		alone := []byte{byte(count)}
		values := append(alone, bytes.Repeat([]byte{2, 0, 0, 16, 0, 0, 16}, count)...)
		if count > 32 {
			refused(t, 60, 0, alone, []byte{byte(count), 3}, []byte{byte(count), 1}, values, append(alone, make([]byte, 300)...))
			refused(t, 60, 1, append([]byte{0}, values...))
			continue
		}
		compare(t, reading{values, 0, slices.Repeat([]api.Value{pair(0, 0)}, count), 1 + 7*count, 0})
		if count > 0 {
			refused(t, api.ErrShort, 0, alone, values[:len(values)-1], values[:len(values)-7])
			refused(t, api.ErrValue, 0, append(alone, make([]byte, 300)...))
		}
	}
}

// P6.2: bytes that are no kind of an external value are refused at once, wherever they stand.
func TestReadKind(t *testing.T) {
	for k := range 256 {
		if k == 1 || k == 2 {
			continue
		}
		x := byte(k)
		first := append([]byte{2}, encoded([]api.Value{integer(5)})[1:]...)
		refused(t, api.ErrValue, 0, []byte{1, x}, []byte{2, x}, []byte{32, x}, []byte{1, x, 0, 0, 0, 0, 0, 0, 0, 0}, append(first, x), append(first, x, 1))
	}
}

// P6.2: a part above its end is refused once all bytes of the value are there.
func TestReadPart(t *testing.T) {
	for _, bad := range [][]byte{{1, 0, 32, 0, 0, 0}, {0, 0, 0, 1, 0, 32}, {255, 255, 255, 0, 0, 16}, {0, 0, 16, 255, 255, 255}, {0, 0, 64, 0, 0, 64}, {1, 0, 32, 1, 0, 32}} {
		b := append([]byte{1, 2}, bad...)
		refused(t, api.ErrValue, 0, b, append(b, 0), append([]byte{3}, b[1:]...))
		refused(t, api.ErrValue, 8, append([]byte{1, 2, 0, 0, 16, 0, 0, 16}, b...))
		for n := 1; n < len(b); n++ {
			refused(t, api.ErrShort, 0, b[:n])
		}
	}
}

// P6.2: an input that ends ahead of the count, of a kind, or of any byte of a value.
func TestReadShort(t *testing.T) {
	for _, l := range pools() {
		b := encoded(l)
		for n := range b {
			refused(t, api.ErrShort, 0, b[:n:n])
			refused(t, api.ErrShort, 2, append([]byte{0, 0}, b[:n]...))
		}
	}
}

// P6.2: bytes behind the length do not count.
func TestReadBehind(t *testing.T) {
	b := encoded([]api.Value{integer(1), pair(2, 3)})
	for n := range b {
		refused(t, api.ErrShort, 0, b[:n])
		refused(t, api.ErrArg, n+1, b[:n])
	}
}

// P6.2: of several errors the first one in the order of the bytes is told.
func TestReadOrder(t *testing.T) {
	good := encoded([]api.Value{integer(1)})[1:]
	refused(t, api.ErrValue, 0, []byte{2, 3}, []byte{2, 3, 2}, slices.Concat([]byte{3}, good, []byte{0, 1}))
	refused(t, api.ErrValue, 0, []byte{2, 2, 1, 0, 32, 0, 0, 0, 1}, []byte{2, 2, 1, 0, 32, 0, 0, 0, 3}, []byte{2, 2, 1, 0, 32, 0, 0, 0})
	refused(t, api.ErrShort, 0, []byte{2, 2, 1, 0, 32, 0, 0}, []byte{2, 1, 3}, slices.Concat([]byte{3}, good, []byte{2, 1, 0, 32}))
	refused(t, 60, 0, []byte{33}, []byte{33, 3}, []byte{33, 1}, []byte{255})
	refused(t, api.ErrArg, 2, []byte{33}, []byte{1})
	refused(t, api.ErrArg, -1, []byte{33}, []byte{1, 3})
}

// P6.3: the first of equal values, or none.
func TestFind(t *testing.T) {
	l := []api.Value{integer(4), pair(4, 0), integer(5), integer(4), pair(0, 4), pair(4, 0), {Kind: 3, A: 4}, {}, {Kind: 1, A: 4, B: 1}}
	for i, x := range []struct {
		l  []api.Value
		v  api.Value
		at int
	}{
		{l, integer(4), 0},
		{l, pair(4, 0), 1},
		{l, integer(5), 2},
		{l, pair(0, 4), 4},
		{l, api.Value{Kind: 3, A: 4}, 6},
		{l, api.Value{}, 7},
		{l, api.Value{Kind: 1, A: 4, B: 1}, 8},
		{l, integer(6), -1},
		{l, integer(-4), -1},
		{l, integer(4 + 1<<32), -1},
		{l, pair(4, 4), -1},
		{l, pair(4, -4), -1},
		{l, pair(5, 0), -1},
		{l, api.Value{A: 4}, -1},
		{l, api.Value{Kind: 4, A: 4}, -1},
		{l, api.Value{Kind: 1, A: 4, B: 2}, -1},
		{l[1:], integer(4), 2},
		{l[:2], integer(5), -1},
		{l[2:3], integer(5), 0},
		{nil, integer(4), -1},
		{[]api.Value{}, api.Value{}, -1},
		{nil, api.Value{}, -1},
	} {
		if at := pool.Find(x.l, x.v); at != x.at {
			t.Errorf("%d: Find(%v, %v) = %d", i, x.l, x.v, at)
		}
	}
}

// P6.3: in sequences of any length, pools or not.
func TestFindEverywhere(t *testing.T) {
	for _, n := range []int{1, 31, 32, 33, 256, 300, 1000} {
		l := row(n)
		for i, v := range l {
			if at := pool.Find(l, v); at != i {
				t.Errorf("Find in %d = %d, not %d", n, at, i)
			}
			if at := pool.Find(append(slices.Clone(l[:i]), l[i+1:]...), v); at != -1 {
				t.Errorf("Find of what is not there = %d", at)
			}
			if at := pool.Find(slices.Concat(l, l), v); at != i {
				t.Errorf("Find of what is there twice = %d, not %d", at, i)
			}
		}
	}
}

// P6.4: the chapter's example, and ordinary values.
func TestAdd(t *testing.T) {
	compareAdd(t, []adding{
		{[]api.Value{integer(4), integer(5)}, integer(5), []api.Value{integer(4), integer(5)}, 1, 0},
		{[]api.Value{integer(4), integer(5)}, integer(4), []api.Value{integer(4), integer(5)}, 0, 0},
		{[]api.Value{integer(4), integer(5)}, integer(7), []api.Value{integer(4), integer(5), integer(7)}, 2, 0},
		{[]api.Value{integer(4), integer(5), integer(4), integer(5)}, integer(5), []api.Value{integer(4), integer(5), integer(4), integer(5)}, 1, 0},
		{[]api.Value{integer(4), integer(4)}, integer(6), []api.Value{integer(4), integer(4), integer(6)}, 2, 0},
		{[]api.Value{integer(4)}, pair(4, 0), []api.Value{integer(4), pair(4, 0)}, 1, 0},
		{[]api.Value{pair(4, 0)}, integer(4), []api.Value{pair(4, 0), integer(4)}, 1, 0},
		{[]api.Value{pair(4, 0)}, pair(0, 4), []api.Value{pair(4, 0), pair(0, 4)}, 1, 0},
		{nil, integer(0), []api.Value{integer(0)}, 0, 0},
		{[]api.Value{}, pair(most, -most), []api.Value{pair(most, -most)}, 0, 0},
	}...)
}

// P6.4: to pools of each length, all of whose values are there already, and some that are not.
func TestAddEverywhere(t *testing.T) {
	for n := range 33 {
		l := row(n)
		for i, v := range l {
			compareAdd(t, adding{l, v, l, i, 0})
		}
		for _, v := range []api.Value{integer(-1), pair(-1, most), row(33)[32]} {
			want := adding{l, v, append(slices.Clone(l), v), n, 0}
			if n == 32 {
				want = adding{l, v, nil, 0, 60}
			}
			compareAdd(t, want)
		}
	}
}

// P6.4: what is not external is not added, to whatever pool, full or not.
func TestAddStrange(t *testing.T) {
	for _, v := range strange() {
		for _, n := range []int{0, 1, 2, 31, 32} {
			compareAdd(t, adding{row(n), v, nil, 0, 60})
		}
	}
}

// P6.4: nothing is added to what is not a pool, though it may be there already.
func TestAddNoPool(t *testing.T) {
	for _, l := range noPools() {
		compareAdd(t,
			adding{l, l[0], nil, 0, 60},
			adding{l, l[len(l)-1], nil, 0, 60},
			adding{l, integer(1), nil, 0, 60},
			adding{l, integer(-99), nil, 0, 60},
			adding{l, api.Value{}, nil, 0, 60},
		)
	}
}

// P6.5: a pool is read back from its encoding, wherever it stands.
func TestThereAndBack(t *testing.T) {
	for _, l := range pools() {
		b, e := pool.Bytes(l)
		if e != 0 {
			t.Fatalf("Bytes = %d", e)
		}
		for _, before := range [][]byte{nil, {0}, {33, 1}, make([]byte, 300), b} {
			for _, behind := range [][]byte{nil, {0}, {1, 2}, {255}, b} {
				all := slices.Concat(before, b, behind)
				compare(t, reading{all, len(before), l, len(before) + len(b), 0})
			}
		}
	}
}

// P6.5: the encoding of a pool that was read are the bytes that were read, whichever they were.
func TestBackAndThere(t *testing.T) {
	read := 0
	try := func(b []byte) {
		l, next, e := pool.Read(b, 0)
		if e != 0 {
			return
		}
		read++
		if c, e := pool.Bytes(l); !bytes.Equal(c, b[:next]) || e != 0 || !pool.May(l) {
			t.Errorf("Read(%v), then Bytes = %v, %d", b, c, e)
		}
	}
	for _, l := range pools() {
		b := encoded(l)
		for i := range b {
			for _, x := range []byte{0, 1, 2, 3, 16, 31, 32, 33, 127, 128, 255} {
				other := slices.Clone(b)
				other[i] = x
				try(other)
			}
		}
	}
	if read < 10000 {
		t.Errorf("only %d were read", read)
	}
}

// P6.6: values that are added one by one stand once each, in the order of their first addition.
func TestNoDuplicates(t *testing.T) {
	all := external()
	for start := range all {
		for _, stride := range []int{1, 2, 5, 7} {
			var l, order []api.Value
			places := map[api.Value]int{}
			for k := range 64 {
				v := all[(start+k*k*stride)%len(all)] // squares come back to where they were
				if _, there := places[v]; !there && len(order) < 32 {
					places[v] = len(order)
					order = append(order, v)
				}
				place, there := places[v]
				out, at, e := pool.Add(l, v)
				if !there {
					if len(out) != 0 || at != 0 || e != 60 {
						t.Fatalf("Add to a full pool = %v, %d, %d", out, at, e)
					}
					continue
				}
				if l = out; at != place || e != 0 || !slices.Equal(l, order) || pool.Find(l, v) != at {
					t.Fatalf("Add of %v = %v, %d, %d", v, l, at, e)
				}
			}
			for v, at := range places {
				if pool.Find(l, v) != at {
					t.Fatalf("Find of %v = %d, not %d", v, pool.Find(l, v), at)
				}
			}
		}
	}
}

// roomy returns l with room behind it that holds other values, and all of that memory.
func roomy(l []api.Value) (front, whole []api.Value) {
	whole = append(slices.Clone(l), row(40)...)
	return whole[:len(l)], whole
}

// Rules: what is passed stays as it was, also in the room behind it, whatever is written into what was returned.
func TestUnchanged(t *testing.T) {
	for _, l := range append(pools(), noPools()...) {
		for _, v := range append([]api.Value{integer(-77), pair(-77, 0), {}}, l...) {
			front, whole := roomy(l)
			before := slices.Clone(whole)
			pool.May(front)
			pool.Find(front, v)
			b, _ := pool.Bytes(front)
			out, _, _ := pool.Add(front, v)
			for _, m := range [][]api.Value{out, out[:cap(out)]} {
				for i := range m {
					m[i] = api.Value{Kind: 9, A: 9, B: 9}
				}
			}
			for i := range b[:cap(b)] {
				b[:cap(b)][i] = 9
			}
			if !slices.Equal(whole, before) {
				t.Fatalf("Add of %v to %v changed what lies there: %v", v, before, whole)
			}
		}
	}
}

// Rules: what Add returned stays as it was, whatever is written into what was passed, or added to it again.
func TestAddApart(t *testing.T) {
	for n := range 32 {
		front, whole := roomy(row(n))
		one, _, _ := pool.Add(front, integer(-1))
		two, _, _ := pool.Add(front, integer(-2))
		three, _, _ := pool.Add(one, integer(-3))
		four, _, _ := pool.Add(one, integer(-1))
		five, _, _ := pool.Add(one, integer(-5))
		clear(whole)
		want := append(row(n), integer(-1))
		if !slices.Equal(one, want) || !slices.Equal(four, want) || !slices.Equal(two, append(row(n), integer(-2))) {
			t.Errorf("%d: %v, %v, %v", n, one, two, four)
		}
		clear(one[:cap(one)])
		if n < 31 && (!slices.Equal(three, append(slices.Clone(want), integer(-3))) || !slices.Equal(five, append(slices.Clone(want), integer(-5)))) {
			t.Errorf("%d: %v, %v", n, three, five)
		}
		if !slices.Equal(four, want) {
			t.Errorf("%d: %v", n, four)
		}
	}
}

// Rules: what Read is passed stays as it was, and what it returned is new memory.
func TestReadApart(t *testing.T) {
	for _, l := range pools() {
		b := append(encoded(l), 1, 2, 3)
		before := slices.Clone(b)
		one, next, _ := pool.Read(b[:len(b)-3], 0)
		two, _, _ := pool.Read(b[:len(b)-3], 0)
		clear(one[:cap(one)])
		if !bytes.Equal(b, before) || next != len(b)-3 || !slices.Equal(two, l) {
			t.Fatalf("Read of %v: %v, %v", before, b, two)
		}
		clear(b)
		if !slices.Equal(two, l) {
			t.Fatalf("Read of %v keeps to its input: %v", before, two)
		}
	}
}

// Rules: the encodings of one pool are memory of their own.
func TestBytesApart(t *testing.T) {
	for _, l := range pools() {
		one, _ := pool.Bytes(l)
		two, _ := pool.Bytes(l)
		clear(one[:cap(one)])
		if !bytes.Equal(two, encoded(l)) {
			t.Fatalf("Bytes of %v = %v", l, two)
		}
	}
}
