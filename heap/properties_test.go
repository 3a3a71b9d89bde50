package heap_test

import (
	"testing"

	"capstan/sample"
)

// P15.5, P15.6: each sequence of a few Makes on each small heap; the words are put and read between them.
func TestSmallHeaps(t *testing.T) {
	const long, widest = 5, 4
	counted := 0
	for capacity := range widest + 1 {
		for n := range power(widest+2, long) {
			p := both(t, capacity)
			for range long {
				p.make(int64(n%(widest+2)) - 1)
				p.used()
				n /= widest + 2
				if n%3 == 0 {
					p.fill()
				}
			}
			p.all()
			counted++
		}
	}
	if counted != 5*7776 {
		t.Errorf("%d", counted)
	}
}

// power returns a to the n.
func power(a, n int) int {
	b := 1
	for range n {
		b *= a
	}
	return b
}

// P15.5: a Put changes the one word that it names: all words are read behind each Put and each Make.
func TestIsolation(t *testing.T) {
	p := both(t, 40)
	for _, n := range []int64{3, 0, 1, 5, 0, 2, 7} {
		p.make(n)
		p.all()
		for k, n := range p.model.lengths {
			for i := range n {
				p.put(int64(k)+1, i, int64(1000*k+100)+i*7-n)
				p.all()
			}
			p.put(int64(k)+1, n, 99)
			p.put(int64(k)+1, -1, 98)
			p.all()
		}
	}
}

// P15.5: words that were never set are 0, though those ahead of them, behind them and in older arrays are not.
func TestNeverSet(t *testing.T) {
	p := both(t, 60)
	for k := range int64(6) {
		p.make(k)
		p.make(k + 1)
		for i := int64(0); i < k; i += 2 {
			p.put(2*k+1, i, -1)
			p.put(2*k+2, i+1, -2)
		}
		p.make(1)
		for ref := range int64(len(p.model.lengths)) {
			n, _ := p.heap.Len(ref)
			for i := range n {
				v, is := p.heap.At(ref, i)
				if _, set := p.model.set[[2]int64{ref, i}]; !is || !set && v != 0 || set && v == 0 {
					t.Fatalf("%d %v, at %d %d", v, is, ref, i)
				}
			}
		}
	}
}

// step does one call that the dice choose, and tells whether it did something: makes an array, puts a word.
func (p pair) step(d *sample.Dice) bool {
	p.Helper()
	last := len(p.model.lengths)
	switch d.Below(8) {
	case 0:
		_, e := p.make(sample.Pick(d, wide))
		return e == 0
	case 1:
		_, e := p.make(int64(d.Below(9)))
		return e == 0
	case 2:
		_, e := p.make(p.model.capacity - p.model.used() + int64(d.Below(3)) - 1)
		return e == 0 && d.Below(2) == 0
	case 3:
		return p.put(sample.Pick(d, wide), sample.Pick(d, wide), 1)
	}
	return p.put(int64(d.Below(last+2)), int64(d.Below(8))-1, int64(d.Below(1000)))
}

// P15.5, P15.6: many calls in any order; everything is asked behind each of them.
func TestAnyOrder(t *testing.T) {
	did, refused := 0, 0
	for seed := range 300 {
		d := sample.Dice(seed)
		p := both(t, sample.Pick(&d, []int{0, 1, 2, 9, 30, 100}))
		for range 60 {
			if p.step(&d) {
				did++
			} else {
				refused++
			}
			p.all()
		}
	}
	if did < 2000 || refused < 2000 {
		t.Errorf("%d %d", did, refused)
	}
}

// P15.6: a call that returns an error, or false, changes nothing, on a heap that is full and on one that is not.
func TestRefused(t *testing.T) {
	for _, left := range []int64{0, 1, 5} {
		p := both(t, 20)
		p.make(9)
		p.make(0)
		p.make(11 - left)
		p.fill()
		for range 3 {
			for _, n := range append([]int64{left + 1, left + 2, 20, most, most + 1}, wide...) {
				if _, e := p.make(n); e == 0 {
					t.Fatalf("Make of %d", n)
				}
				p.all()
			}
			for _, ref := range append([]int64{0, 2, 4}, wide...) {
				if p.put(ref, 0, 5) {
					t.Fatalf("Put of %d", ref)
				}
				p.all()
			}
		}
		if ref, e := p.make(left); ref != 4 || e != 0 {
			t.Errorf("%d %d", ref, e)
		}
		p.fill()
		p.all()
	}
}

// P15.5: heaps share no words, whichever is written.
func TestApart(t *testing.T) {
	var l []pair
	for k := range 4 {
		p := both(t, 10)
		p.make(int64(k))
		p.make(6)
		l = append(l, p)
	}
	for round := range int64(3) {
		for k, p := range l {
			p.put(2, round, int64(10*k)+round)
			p.put(1, round, -round)
			p.make(1)
			for _, other := range l {
				other.all()
			}
		}
	}
}
