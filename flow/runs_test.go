package flow_test

import (
	"slices"
	"testing"

	"capstan/api"
	"capstan/flow"
)

// run executes code, with nothing but its control flow, by the document's own words; branch tells of each OpZero that is met whether it leads to its target. It returns how often each index was reached, and whether the run came to an OpRet or an OpTrap before some index was reached more often than its bound.
func run(l []api.Instr, bounds []int, branch func() bool) ([]int, bool) {
	counts := make([]int, len(l))
	left := make([]int, len(l)) // the turns left of the loop whose OpLoop stands there
	at := 0
	for 0 <= at && at < len(l) {
		counts[at]++
		if counts[at] > bounds[at] {
			return counts, false
		}
		i := l[at]
		at++
		switch i.Op {
		case ret, trap:
			return counts, true
		case jump:
			at = i.A
		case zero:
			if branch() {
				at = i.A
			}
		case loop:
			left[at-1] = i.A
		case again:
			left[i.A]--
			if left[i.A] > 0 {
				at = i.A + 1
			}
		}
	}
	return counts, false
}

// branchings returns functions that tell how to branch: in all ways, if so many decisions are few, and otherwise in many.
func branchings(decisions int) []func() bool {
	var l []func() bool
	byBits := func(bits uint64) func() bool {
		at := 0
		return func() bool {
			at++
			return bits>>((at-1)%64)&1 == 1
		}
	}
	if decisions <= 8 {
		for bits := range 1 << decisions {
			l = append(l, byBits(uint64(bits)))
		}
		return l
	}
	for _, bits := range []uint64{0, 1<<64 - 1, 0x5555555555555555, 0xaaaaaaaaaaaaaaaa, 1, 1 << 63, 1<<63 - 1, 1<<64 - 2, 0xffff0000ffff0000, 0xf0f0f0f0} {
		l = append(l, byBits(bits))
	}
	for often := 1; often < 8; often++ {
		d := dice(decisions * often)
		l = append(l, func() bool { return d.below(8) < often })
	}
	return l
}

// decisions returns how often an OpZero can be met at most in one run.
func decisions(l []api.Instr, bounds []int) int {
	n := 0
	for at, i := range l {
		if i.Op == zero {
			n += bounds[at]
		}
	}
	return n
}

// P9.4: whichever way each OpZero branches, each time, a run comes to an end, and reaches each index at most as often as its bound.
func TestRuns(t *testing.T) {
	for l := range wellFormed() {
		bounds, e := flow.Times(l)
		if e != 0 {
			t.Fatalf("%v, of %v", e, l)
		}
		for _, branch := range branchings(decisions(l, bounds)) {
			if counts, ended := run(l, bounds, branch); !ended {
				t.Fatalf("reached %v, of bounds %v, in %v", counts, bounds, l)
			}
		}
	}
}

// P9.4: where nothing jumps and nothing ends but the last instruction, the bounds are reached: from one turn to the most, and four loops of these within one another.
func TestRunsExact(t *testing.T) {
	codes := [][]api.Instr{straight(1), straight(200), closed(tower(0, 1)), closed(tower(0, 100)), closed(tower(0, 1, 1, 1, 1)), closed(tower(0, 100, 1, 100, 1)), closed(tower(0, 100, 100, 100, 100)), closed(append(tower(0, 7, 5), tower(4, 3, 100, 9)...)), written("loop 100; nop; loop 99; pop; again 2; nop; loop 3; again 6; again 0; trap 9")}
	for _, l := range codes {
		bounds, e := flow.Times(l)
		counts, ended := run(l, bounds, func() bool { return false })
		if e != 0 || !ended || !slices.Equal(counts, bounds) {
			t.Errorf("reached %v, of bounds %v, in %v", counts, bounds, l)
		}
	}
}

// P9.4: jumps out of loops and within them, whose runs reach less than the bounds, and a loop that is begun anew.
func TestRunsJumps(t *testing.T) {
	for _, x := range []struct {
		text   string
		branch bool
		counts []int
	}{
		{"loop 3; jump 3; again 0; ret", false, []int{1, 1, 0, 1}},
		{"loop 3; jump 2; again 0; ret", false, []int{1, 3, 3, 1}},
		{"loop 3; zero 4; nop; again 0; ret", true, []int{1, 1, 0, 0, 1}},
		{"loop 3; zero 4; nop; again 0; ret", false, []int{1, 3, 3, 3, 1}},
		{"loop 3; zero 3; nop; again 0; ret", true, []int{1, 3, 0, 3, 1}},
		{"loop 3; loop 4; zero 4; again 1; again 0; ret", true, []int{1, 3, 3, 0, 3, 1}},
		{"loop 3; loop 4; zero 4; again 1; again 0; ret", false, []int{1, 3, 12, 12, 3, 1}},
		{"loop 3; ret; again 0; ret", false, []int{1, 1, 0, 0}},
	} {
		l := written(x.text)
		bounds, e := flow.Times(l)
		counts, ended := run(l, bounds, func() bool { return x.branch })
		if e != 0 || !ended || !slices.Equal(counts, x.counts) {
			t.Errorf("reached %v, not %v, of bounds %v, in %s", counts, x.counts, bounds, x.text)
		}
	}
}

// P9.5: each successor is greater than its index, but for the one behind the OpLoop, to which its OpAgain leads back.
func TestForward(t *testing.T) {
	for l := range wellFormed() {
		for at, i := range l {
			ways, e := flow.Ways(l, at)
			if e != 0 {
				t.Fatalf("%v, of %v", e, l)
			}
			for _, to := range ways {
				if back := i.Op == again && to == i.A+1; (to <= at) != back || to >= len(l) {
					t.Errorf("from %d to %d, in %v", at, to, l)
				}
			}
		}
	}
}

// P9.6: of two loops either one is inside the other or no index is inside both; the bound of an index is the product of the turns of the loops that Loops returns and that have it inside.
func TestProducts(t *testing.T) {
	for l := range wellFormed() {
		loops, e := flow.Loops(l)
		times, other := flow.Times(l)
		if e != 0 || other != 0 || len(times) != len(l) {
			t.Fatalf("%v %v, of %v", e, other, l)
		}
		for i, a := range loops {
			for _, b := range loops[:i] {
				if share(a, b, len(l)) && !within(a, b) && !within(b, a) {
					t.Errorf("%v and %v, of %v", a, b, l)
				}
			}
		}
		for at, n := range times {
			for _, x := range loops {
				if isInside(at, x) {
					if n%x.Turns != 0 {
						t.Errorf("%v, of %v, in %v", times, loops, l)
					}
					n /= x.Turns
				}
			}
			if n != 1 {
				t.Errorf("%v, of %v, in %v", times, loops, l)
			}
		}
	}
}
