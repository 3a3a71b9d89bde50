package heap_test

import (
	"math"
	"testing"

	"capstan/api"
	"capstan/heap"
)

// The errors as the chapter numbers them.
const (
	badNil  api.Errno = 1
	badArg  api.Errno = 2
	badFull api.Errno = 4
)

// most is MaxHeap as the document says it.
const most = 1024

// wide are numbers that are neither indexes nor numbers of arrays nor lengths, some of them because of their upper half alone.
var wide = []int64{math.MinInt64, math.MinInt64 + 1, -1 << 32, -1<<32 + 1, -most, -2, -1, 1 << 16, 1 << 32, 1<<32 + 1, 1<<63 - 1<<32, math.MaxInt64 - 1, math.MaxInt64}

// model is a heap as the chapter describes it.
type model struct {
	capacity int64
	lengths  []int64 // of the arrays from 1 on
	set      map[[2]int64]int64
}

// describe returns the model of a heap of that capacity.
func describe(capacity int64) *model { return &model{capacity, nil, map[[2]int64]int64{}} }

// used returns the number of words in use.
func (m *model) used() int64 {
	n := int64(0)
	for _, length := range m.lengths {
		n += length
	}
	return n
}

// make returns what Make returns.
func (m *model) make(n int64) (int64, api.Errno) {
	switch {
	case n < 0 || n > most:
		return 0, badArg
	case m.used()+n > m.capacity:
		return 0, badFull
	}
	m.lengths = append(m.lengths, n)
	return int64(len(m.lengths)), 0
}

// len returns what Len returns.
func (m *model) len(ref int64) (int64, bool) {
	switch {
	case ref == 0:
		return 0, true
	case ref < 0 || ref > int64(len(m.lengths)):
		return 0, false
	}
	return m.lengths[ref-1], true
}

// at returns what At returns.
func (m *model) at(ref, i int64) (int64, bool) {
	if n, _ := m.len(ref); i < 0 || i >= n {
		return 0, false
	}
	return m.set[[2]int64{ref, i}], true
}

// put returns what Put returns.
func (m *model) put(ref, i, v int64) bool {
	_, is := m.at(ref, i)
	if is {
		m.set[[2]int64{ref, i}] = v
	}
	return is
}

// pair is a heap, and the model that describes it.
type pair struct {
	*testing.T
	heap  *heap.Heap
	model *model
}

// both returns a heap of that capacity, and its model.
func both(t *testing.T, capacity int) pair {
	t.Helper()
	h, e := heap.New(capacity)
	if e != 0 || h == nil {
		t.Fatalf("%d, of capacity %d", e, capacity)
	}
	return pair{t, h, describe(int64(capacity))}
}

// make holds what Make returns, and returns it.
func (p pair) make(n int64) (int64, api.Errno) {
	p.Helper()
	want, bad := p.model.make(n)
	if ref, e := p.heap.Make(n); ref != want || e != bad {
		p.Fatalf("Make of %d: %d %d, not %d %d", n, ref, e, want, bad)
	}
	return want, bad
}

// put holds what Put returns, and returns it.
func (p pair) put(ref, i, v int64) bool {
	p.Helper()
	want := p.model.put(ref, i, v)
	if is := p.heap.Put(ref, i, v); is != want {
		p.Fatalf("Put of %d %d %d: %v", ref, i, v, is)
	}
	return want
}

// at holds what At returns.
func (p pair) at(ref, i int64) {
	p.Helper()
	want, bad := p.model.at(ref, i)
	if v, is := p.heap.At(ref, i); v != want || is != bad {
		p.Fatalf("At of %d %d: %d %v, not %d %v", ref, i, v, is, want, bad)
	}
}

// len holds what Len returns.
func (p pair) len(ref int64) {
	p.Helper()
	want, bad := p.model.len(ref)
	if n, is := p.heap.Len(ref); n != want || is != bad {
		p.Fatalf("Len of %d: %d %v, not %d %v", ref, n, is, want, bad)
	}
}

// used holds what Used returns.
func (p pair) used() {
	p.Helper()
	if n := p.heap.Used(); int64(n) != p.model.used() || n < 0 || int64(n) > p.model.capacity {
		p.Fatalf("Used: %d, not %d", n, p.model.used())
	}
}

// all holds what can be asked of the heap: each array, each word, and what stands on both sides of them.
func (p pair) all() {
	p.Helper()
	p.used()
	for ref := int64(-1); ref <= int64(len(p.model.lengths))+1; ref++ {
		p.len(ref)
		n, _ := p.model.len(ref)
		for i := int64(-1); i <= n; i++ {
			p.at(ref, i)
		}
	}
}

// fill puts another number in each word.
func (p pair) fill() {
	p.Helper()
	v := int64(len(p.model.set))
	for k, n := range p.model.lengths {
		for i := range n {
			v++
			p.put(int64(k)+1, i, v*v*v-7*v)
		}
	}
}
