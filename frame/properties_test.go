package frame_test

import (
	"slices"
	"testing"

	"capstan/api"
	"capstan/sample"
)

// P16.6: rows of values come off in the reverse order, and the locals are the same behind each push and each pop.
func TestStackOrder(t *testing.T) {
	for _, locals := range []string{"", "n", "npr", "nprnprnprnprnprn"} {
		for long := range 40 {
			d := sample.Dice(long)
			h := of(t, "", locals)
			for i, v := range h.model.locals {
				h.set(i, api.Value{Kind: v.Kind, A: int64(1000 + i)})
			}
			kept := slices.Clone(h.model.locals)
			var row []api.Value
			for k := range long {
				row = append(row, api.Value{Kind: sample.Pick(&d, []uint8{integer, pairKind, array}), A: int64(k), B: int64(d.Below(9))})
			}
			for _, v := range row {
				if !h.frame.Push(v) {
					t.Fatalf("%v", v)
				}
				h.keeps(kept)
			}
			for _, want := range slices.Backward(row) {
				if v, is := h.frame.Pop(sample.Pick(&d, []uint8{none, want.Kind})); v != want || !is {
					t.Fatalf("%v %v, not %v", v, is, want)
				}
				h.keeps(kept)
			}
			h.look()
		}
	}
}

// keeps holds that these are the locals.
func (h held) keeps(l []api.Value) {
	h.Helper()
	for i, want := range l {
		if v, is := h.frame.Get(i); v != want || !is {
			h.Fatalf("local %d: %v %v, not %v", i, v, is, want)
		}
	}
}

// P16.6: a full stack comes off in order, too, and what was refused is not on it.
func TestFullOrder(t *testing.T) {
	for n := range mostLocals + 1 {
		h := of(t, "", "nnnnnnnnnnnnnnnn"[:n])
		for k := range mostStack + 9 {
			if is := h.frame.Push(api.Value{Kind: integer, A: int64(k)}); is != (k < mostStack-n) {
				t.Fatalf("%d of %d", k, n)
			}
		}
		for k := mostStack - n - 1; k >= 0; k-- {
			if v, is := h.frame.Pop(none); v.A != int64(k) || !is {
				t.Fatalf("%v %v, not %d", v, is, k)
			}
		}
		h.look()
	}
}

// P16.7: n turns, for several n: Again returns true n - 1 times, and then false.
func TestTurns(t *testing.T) {
	h := of(t, "n", "")
	for _, n := range []int{1, 2, 3, 4, 5, 10, 63, 64, 65, 99, 100, 101, 1000} {
		for _, number := range []int{-7, 0, 5} {
			h.frame.Begin(number, n)
			for k := range n - 1 {
				if more, is := h.frame.Again(number); !more || !is {
					t.Fatalf("%d of %d: %v %v", k, n, more, is)
				}
			}
			if more, is := h.frame.Again(number); more || !is {
				t.Fatalf("the last of %d: %v %v", n, more, is)
			}
			if more, is := h.frame.Again(number); more || is {
				t.Fatalf("one more than %d: %v %v", n, more, is)
			}
		}
	}
	h.look()
}

// P16.7: two loops, one within the other, and three: each inner one has its turns anew in each turn of the outer one.
func TestNested(t *testing.T) {
	for outer := 1; outer < 6; outer++ {
		for inner := 1; inner < 6; inner++ {
			h, counted := of(t, "", ""), 0
			h.turns(2, outer, func() {
				h.turns(5, inner, func() {
					h.turns(-1, 2, func() { counted++ })
				})
			})
			if counted != 2*outer*inner {
				t.Errorf("%d, of %d and %d", counted, outer, inner)
			}
		}
	}
}

// turns does what a loop's turns do, as an OpLoop and its OpAgain around it.
func (h held) turns(number, n int, do func()) {
	h.Helper()
	h.frame.Begin(number, n)
	for {
		do()
		more, is := h.frame.Again(number)
		if !is {
			h.Fatalf("no turns left of %d", number)
		}
		if !more {
			return
		}
	}
}

// P16.7: loops count apart from one another, however many there are.
func TestManyLoops(t *testing.T) {
	h := of(t, "", "")
	for n := -300; n < 300; n++ {
		h.begin(n, n%7+2)
	}
	for range 10 {
		for n := -301; n < 301; n++ {
			h.again(n)
		}
	}
}

// step does one call that the dice choose, and tells whether it did something.
func (h held) step(d *sample.Dice) bool {
	h.Helper()
	switch d.Below(9) {
	case 0:
		h.place(sample.Pick(d, wide))
		return true
	case 1:
		h.begin(d.Below(4), d.Below(6)-1)
		return true
	case 2, 3:
		_, is := h.again(d.Below(4))
		return is
	case 4:
		return h.push(api.Value{Kind: sample.Pick(d, odd), A: 1})
	case 5:
		_, is := h.pop(sample.Pick(d, []uint8{none, integer, pairKind, array, 4}))
		return is
	case 6:
		return h.set(d.Below(mostLocals+2)-1, sample.Pick(d, values))
	}
	return h.push(sample.Pick(d, values))
}

// P16.2 to P16.6: many calls in any order; everything is asked behind each of them.
func TestAnyOrder(t *testing.T) {
	did, refused := 0, 0
	for seed := range 300 {
		d := sample.Dice(seed)
		h := of(t, sample.Pick(&d, []string{"", "n", "prn", "rrrrnnnn"}), sample.Pick(&d, []string{"", "p", "npr", "nnpprrrr"}))
		for range sample.Pick(&d, []int{0, 200, 240, 245}) {
			h.push(values[1])
		}
		for range 100 {
			if h.step(&d) {
				did++
			} else {
				refused++
			}
			h.look()
		}
		h.whole()
	}
	if did < 5000 || refused < 5000 {
		t.Errorf("%d %d", did, refused)
	}
}

// Frames share nothing, whichever is changed.
func TestApart(t *testing.T) {
	var l []held
	for k := range 4 {
		l = append(l, of(t, "np", "rn"[:k%3]))
	}
	for round := range 4 {
		for k, h := range l {
			h.push(api.Value{Kind: integer, A: int64(10*k + round)})
			h.set(0, api.Value{Kind: integer, A: int64(100*k + round)})
			h.place(1000*k + round)
			h.begin(round, k+1)
			for _, other := range l {
				other.look()
			}
		}
	}
	for range 5 {
		for _, h := range l {
			for n := range 4 {
				h.again(n)
			}
		}
	}
	for _, h := range l {
		h.whole()
	}
}
