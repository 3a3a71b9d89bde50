package heap_test

import (
	"math"
	"slices"
	"testing"

	"capstan/api"
	"capstan/heap"
)

// The limit is what the document says.
func TestLimit(t *testing.T) {
	if api.MaxHeap != most {
		t.Errorf("%d", api.MaxHeap)
	}
}

// P15.1: each capacity in range, and what stands in the new heap.
func TestNew(t *testing.T) {
	for capacity := range most + 1 {
		p := both(t, capacity)
		p.all()
		p.make(int64(capacity) + 1)
		p.all()
		if ref, e := p.make(int64(capacity)); ref != 1 || e != 0 {
			t.Fatalf("%d %d", ref, e)
		}
		p.make(1)
		p.used()
		p.len(1)
	}
}

// P15.1: capacities out of range.
func TestNewFaults(t *testing.T) {
	l := []int{math.MinInt, math.MinInt + 1, -most - 1, -most, -2, -1, most + 1, most + 2, 2 * most, 1 << 16, 1 << 32, 1<<32 + 1, math.MaxInt - 1, math.MaxInt}
	for _, words := range l {
		if h, e := heap.New(words); h != nil || e != badArg {
			t.Errorf("%v %d, of capacity %d", h, e, words)
		}
	}
}

// The chapter's example.
func TestExample(t *testing.T) {
	h, e := heap.New(3)
	if e != 0 {
		t.Fatalf("%d", e)
	}
	for _, c := range []struct {
		n, ref int64
		e      api.Errno
	}{{2, 1, 0}, {2, 0, badFull}, {0, 2, 0}, {1, 3, 0}} {
		if ref, e := h.Make(c.n); ref != c.ref || e != c.e {
			t.Errorf("Make of %d: %d %d", c.n, ref, e)
		}
	}
	if !h.Put(1, 1, 7) {
		t.Errorf("not put")
	}
	if v, is := h.At(1, 1); v != 7 || !is {
		t.Errorf("%d %v", v, is)
	}
	if v, is := h.At(1, 2); v != 0 || is {
		t.Errorf("%d %v", v, is)
	}
	if n, is := h.Len(0); n != 0 || !is {
		t.Errorf("%d %v", n, is)
	}
	if n := h.Used(); n != 3 {
		t.Errorf("%d", n)
	}
}

// P15.2: each length, below 0 and above MaxHeap too, with each of several numbers of words left: what is just left, and one word more or less.
func TestMake(t *testing.T) {
	for _, capacity := range []int{0, 1, 2, 3, 17, most - 1, most} {
		for _, taken := range []int{0, 1, 2, capacity / 2, capacity - 1, capacity} {
			if taken < 0 || taken > capacity {
				continue
			}
			for n := int64(-3); n <= most+3; n++ {
				p := both(t, capacity)
				p.make(int64(taken))
				p.make(n)
				p.used()
				p.make(0)
				p.len(1)
				p.len(2)
				p.len(3)
				p.used()
			}
		}
	}
}

// P15.2: lengths far out of range, of a heap with room and of one without.
func TestMakeWide(t *testing.T) {
	for _, capacity := range []int{0, 1, most} {
		for _, n := range wide {
			p := both(t, capacity)
			if ref, e := p.make(n); ref != 0 || e != badArg {
				t.Errorf("%d %d, of %d", ref, e, n)
			}
			p.all()
			p.make(int64(capacity))
			if ref, e := p.make(n); ref != 0 || e != badArg {
				t.Errorf("%d %d, of %d", ref, e, n)
			}
			p.len(1)
			p.used()
		}
	}
}

// P15.2: of several errors, the first that applies.
func TestFirstError(t *testing.T) {
	full := both(t, 0).heap
	var none *heap.Heap
	for _, c := range []struct {
		h *heap.Heap
		n int64
		e api.Errno
	}{
		{none, -1, badNil}, {none, 0, badNil}, {none, 1, badNil}, {none, most + 1, badNil},
		{new(heap.Heap), -1, badNil}, {new(heap.Heap), 0, badNil}, {new(heap.Heap), most + 1, badNil},
		{full, -1, badArg}, {full, most + 1, badArg}, {full, most, badFull}, {full, 1, badFull}, {full, 0, 0},
	} {
		want := int64(0)
		if c.e == 0 {
			want = 1
		}
		if ref, e := c.h.Make(c.n); ref != want || e != c.e {
			t.Errorf("%d %d, not %d, of %d", ref, e, c.e, c.n)
		}
	}
}

// P15.2: arrays are numbered from 1 in the order of their allocation; what is refused takes no number.
func TestNumbers(t *testing.T) {
	p := both(t, most)
	for k := range int64(most) {
		for _, n := range []int64{-1, most + 1, most - k + 1} {
			if ref, e := p.make(n); ref != 0 || e == 0 {
				t.Fatalf("%d %d, of %d", ref, e, n)
			}
		}
		if ref, e := p.make(1); ref != k+1 || e != 0 {
			t.Fatalf("%d %d", ref, e)
		}
	}
	p.make(1)
	p.fill()
	p.all()
}

// P15.2: arrays without words take none, however many there are.
func TestEmpty(t *testing.T) {
	for _, capacity := range []int{0, 1, most} {
		p := both(t, capacity)
		const many = 20000
		for k := range int64(many) {
			if ref, e := p.heap.Make(0); ref != k+1 || e != 0 {
				t.Fatalf("%d %d", ref, e)
			}
			p.model.lengths = append(p.model.lengths, 0)
		}
		p.all()
		p.make(int64(capacity))
		for _, ref := range []int64{1, many, many + 1, many + 2} {
			p.len(ref)
			p.put(ref, 0, 5)
			p.at(ref, 0)
		}
		p.used()
	}
}

// places returns numbers on both sides of each of those, and wide ones.
func places(l ...int64) []int64 {
	all := slices.Clone(wide)
	for _, n := range l {
		all = append(all, n-1, n, n+1)
	}
	slices.Sort(all)
	return slices.Compact(all)
}

// P15.3: each array and index, and those that do not exist.
func TestAtPut(t *testing.T) {
	for _, lengths := range [][]int64{nil, {0}, {1}, {2, 0, 3}, {0, 0, 5}, {4, 1, 1, 0}, {most}, {1, most - 1}, {most - 2, 0, 1}} {
		p := both(t, most)
		for _, n := range lengths {
			p.make(n)
		}
		if len(lengths) != len(p.model.lengths) {
			t.Fatalf("%v", p.model.lengths)
		}
		put := int64(0)
		for _, ref := range places(0, 1, int64(len(lengths))) {
			n, _ := p.model.len(ref)
			for _, i := range places(0, 1, n) {
				p.at(ref, i)
				if p.put(ref, i, 100*ref+i+1) {
					put++
				}
				p.at(ref, i)
			}
		}
		if p.model.used() > 0 && put == 0 {
			t.Fatalf("nothing was put, of %v", lengths)
		}
		p.all()
	}
}

// P15.3: a word holds each number that is put there, the last one.
func TestWords(t *testing.T) {
	p := both(t, 3)
	p.make(1)
	p.make(2)
	for _, v := range []int64{1, -1, math.MaxInt64, math.MinInt64, 1 << 32, 1<<31 + 5, 0, 9} {
		for _, where := range [][2]int64{{1, 0}, {2, 0}, {2, 1}} {
			if !p.put(where[0], where[1], v) {
				t.Fatalf("%v", where)
			}
			if got, is := p.heap.At(where[0], where[1]); got != v || !is {
				t.Errorf("%d %v, not %d", got, is, v)
			}
			p.all()
		}
	}
}

// P15.3: array 0 has no words.
func TestArrayZero(t *testing.T) {
	p := both(t, 2)
	for range 3 {
		for _, i := range places(0, 1) {
			if p.heap.Put(0, i, 7) {
				t.Errorf("put at %d", i)
			}
			if v, is := p.heap.At(0, i); v != 0 || is {
				t.Errorf("%d %v at %d", v, is, i)
			}
		}
		if n, is := p.heap.Len(0); n != 0 || !is {
			t.Errorf("%d %v", n, is)
		}
		p.make(1)
		p.fill()
		p.all()
	}
}

// P15.4: the arrays' lengths and their sum, behind each call; and of arrays that do not exist.
func TestLenUsed(t *testing.T) {
	for _, lengths := range [][]int64{nil, {0}, {3}, {2, 0, 3}, {1, 2, 4, 8, 16, 32, 64, 128, 256, 512}, {most, 0}} {
		p := both(t, most)
		p.used()
		for _, n := range lengths {
			p.make(n)
			p.used()
			for _, ref := range places(0, 1, int64(len(p.model.lengths))) {
				p.len(ref)
				p.used()
			}
		}
	}
}

// nothing holds that every call of h answers as of no heap.
func nothing(t *testing.T, h *heap.Heap) {
	t.Helper()
	for _, n := range places(0, 1, 2, most) {
		if ref, e := h.Make(n); ref != 0 || e != badNil {
			t.Fatalf("Make of %d: %d %d", n, ref, e)
		}
		if length, is := h.Len(n); length != 0 || is {
			t.Fatalf("Len of %d: %d %v", n, length, is)
		}
		for _, i := range places(0, 1) {
			if h.Put(n, i, 7) {
				t.Fatalf("Put of %d %d", n, i)
			}
			if v, is := h.At(n, i); v != 0 || is {
				t.Fatalf("At of %d %d: %d %v", n, i, v, is)
			}
		}
		if used := h.Used(); used != 0 {
			t.Fatalf("Used: %d", used)
		}
	}
}

// A nil *Heap, and a Heap that New did not return, are no heaps: each call, again behind all others.
func TestNoHeap(t *testing.T) {
	var none *heap.Heap
	var plain heap.Heap
	list := make([]heap.Heap, 2)
	for range 2 {
		for _, h := range []*heap.Heap{none, new(heap.Heap), {}, &plain, &list[1]} {
			nothing(t, h)
		}
	}
	if failed, e := heap.New(-1); e != badArg {
		t.Errorf("%d", e)
	} else {
		nothing(t, failed)
	}
}

// A copy of a Heap is one that New did not return; the heap that it was copied from stays as it was.
func TestCopied(t *testing.T) {
	p := both(t, 9)
	p.make(2)
	p.make(3)
	p.fill()
	copied := *p.heap
	nothing(t, &copied)
	p.all()
	other := both(t, 4)
	other.make(4)
	*other.heap = *p.heap
	nothing(t, other.heap)
	p.make(4)
	p.fill()
	p.all()
	nothing(t, &copied)
}
