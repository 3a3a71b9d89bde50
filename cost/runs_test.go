package cost_test

import (
	"slices"
	"testing"

	"capstan/api"
	"capstan/calls"
	"capstan/cost"
)

// run is a run of a module's methods that looks at nothing but how much is taken.
type run struct {
	m      api.Module
	branch func() bool // tells of each OpZero that is met whether it leads to its target
	spent  api.Cert    // what was taken so far
	size   int         // of all frames together
	fault  string      // what was found that should not be
}

// far is how many instructions a run may execute at most: more than those of the samples.
const far = 1 << 18

// start runs the method k, and returns what it took.
func (r *run) start(k int) api.Cert {
	r.spent, r.size = api.Cert{}, 0
	r.grow(len(r.m.Methods[k].Args))
	if r.call(k) && r.size > 0 {
		r.fault = "something stays"
	}
	return r.spent
}

// grow makes the frames so much greater.
func (r *run) grow(by int) {
	r.size += by
	r.spent.Stack = max(r.spent.Stack, r.size)
}

// activation is a method of a run in progress.
type activation struct {
	x    api.Method
	at   int
	row  []uint8     // the kinds of the values on its stack
	left map[int]int // the turns left, by the index of the OpLoop
}

// call executes the method k, whose arguments stand in its frame, and tells whether it came to an OpRet; its frame has gone then, and the result not come.
func (r *run) call(k int) bool {
	a := activation{x: r.m.Methods[k], left: map[int]int{}}
	r.grow(len(a.x.Locals))
	for r.fault == "" {
		i := a.x.Code[a.at]
		if r.spent.Fuel++; r.spent.Fuel > far {
			r.fault = "no end"
		}
		takes, leaves, is := effect(r.m, a.x, i, a.row)
		if !is {
			r.fault = "another row"
			break
		}
		a.row = slices.Concat(a.row[:len(a.row)-len(takes)], leaves)
		switch i.Op {
		case api.OpTrap:
			return false
		case api.OpRet:
			r.grow(-len(a.x.Args) - len(a.x.Locals) - len(takes) - len(a.row))
			return true
		case api.OpCall:
			// The arguments go over from the one frame to the other.
			if !r.call(i.A) {
				return false
			}
			r.grow(1)
		default:
			if i.Op == api.OpNew {
				r.spent.Heap += i.A
			}
			r.grow(-len(takes))
			r.grow(len(leaves))
		}
		a.at = r.next(&a, i)
	}
	return false
}

// next returns the index that follows that of the instruction.
func (r *run) next(a *activation, i api.Instr) int {
	switch i.Op {
	case api.OpJump:
		return i.A
	case api.OpZero:
		if r.branch() {
			return i.A
		}
	case api.OpLoop:
		a.left[a.at] = i.A
	case api.OpAgain:
		a.left[i.A]--
		if a.left[i.A] > 0 {
			return i.A + 1
		}
	}
	return a.at + 1
}

// ways calls a function with ways to branch: all of them if they are fewer than so many, and many otherwise. It tells whether these were all.
func ways(most int, do func(branch func() bool)) bool {
	var path []bool
	for range most {
		at := 0
		do(func() bool {
			if at == len(path) {
				path = append(path, false)
			}
			at++
			return path[at-1]
		})
		// The next way is another one from the last OpZero on that did not branch.
		last := len(path) - 1
		for last >= 0 && path[last] {
			last--
		}
		if last < 0 {
			return true
		}
		path = append(path[:last], true)
	}
	for often := range 9 {
		d := dice(often)
		do(func() bool { return d.below(8) < often })
	}
	return false
}

// greatest returns the greatest numbers that the runs of the method k take, and whether all ways to branch were gone.
func greatest(t *testing.T, m api.Module, k, most int) (api.Cert, bool) {
	t.Helper()
	r := &run{m: m}
	var c api.Cert
	all := ways(most, func(branch func() bool) {
		r.branch = branch
		spent := r.start(k)
		c = api.Cert{Fuel: max(c.Fuel, spent.Fuel), Stack: max(c.Stack, spent.Stack), Heap: max(c.Heap, spent.Heap)}
		if r.fault != "" || r.size < 0 {
			t.Fatalf("%s, %d, of method %d of %v", r.fault, r.size, k, m)
		}
	})
	return c, all
}

// within tells whether each number of a certificate is at most that of another one.
func within(c, bound api.Cert) bool {
	return c.Fuel <= bound.Fuel && c.Stack <= bound.Stack && c.Heap <= bound.Heap
}

// told returns the certificates of a module that has no error.
func told(t *testing.T, m api.Module) []api.Cert {
	t.Helper()
	certs, e := cost.Costs(m)
	if e != 0 {
		t.Fatalf("%d, of %v", e, m)
	}
	return certs
}

// P12.3: whichever way each OpZero branches, each time, no run takes more than the certificate.
func TestRuns(t *testing.T) {
	all, others := 0, 0
	for seed := range seeds {
		m := grown(seed)
		for k, c := range told(t, m) {
			most, is := greatest(t, m, k, 20)
			if !within(most, c) {
				t.Fatalf("%v, more than %v, of method %d of %v", most, c, k, m)
			}
			if is && !straight(m, k) {
				all++
			} else if !is {
				others++
			}
		}
	}
	if all < 100 || others < 100 {
		t.Errorf("all ways of %d with jumps, some ways of %d", all, others)
	}
}

// P12.3: the same of all that is small, over all ways.
func TestRunsSmall(t *testing.T) {
	exact, less := 0, 0
	for m := range small() {
		certs, e := cost.Costs(m)
		if e != 0 {
			continue
		}
		most, all := greatest(t, m, 0, 1<<12)
		if !all || !within(most, certs[0]) {
			t.Fatalf("%v, more than %v, of %v", most, certs[0], m)
		}
		if most == certs[0] {
			exact++
		} else {
			less++
		}
	}
	if exact < 100 || less < 100 {
		t.Errorf("%d take as much as is told, %d less", exact, less)
	}
}

// P12.3: over all ways to branch, what the runs of a method take at most, where that is what the certificate tells and where it is less.
func TestRunsReach(t *testing.T) {
	for _, x := range []struct {
		m          api.Module
		most, want api.Cert // of method 0
	}{
		{coded("const 0; zero 4; nop; nop; trap"), api.Cert{Fuel: 5, Stack: 1}, api.Cert{Fuel: 5, Stack: 1}},
		{coded("const 0; zero 5; const 0; new 5; trap; nop; trap"), api.Cert{Fuel: 5, Stack: 1, Heap: 5}, api.Cert{Fuel: 7, Stack: 1, Heap: 5}},
		{coded("const 0; zero 5; const 0; new 5; trap; const 0; dup; new 6; trap"), api.Cert{Fuel: 6, Stack: 2, Heap: 6}, api.Cert{Fuel: 9, Stack: 2, Heap: 11}},
		{coded("loop 5; const 0; zero 4; nop; again 0; trap"), api.Cert{Fuel: 22, Stack: 1}, api.Cert{Fuel: 22, Stack: 1}},
		{coded("loop 5; const 0; zero 5; nop; again 0; const 0; ret"), api.Cert{Fuel: 23, Stack: 1}, api.Cert{Fuel: 23, Stack: 1}},
		{coded("loop 5; const 0; zero 4; jump 5; again 0; const 0; ret"), api.Cert{Fuel: 18, Stack: 1}, api.Cert{Fuel: 23, Stack: 1}},
		{coded("loop 3; loop 3; const 0; zero 6; call 1; pop; again 1; again 0; trap", "const 0; dup; new 4; len; ret"), api.Cert{Fuel: 98, Stack: 2, Heap: 36}, api.Cert{Fuel: 98, Stack: 2, Heap: 36}},
		{with(methodOf("n", "pr", "get 0; zero 6; get 0; get 0; call 1; ret; const 0; call 1; ret"), methodOf("n", "n", "7* get 0; ret")), api.Cert{Fuel: 14, Stack: 13}, api.Cert{Fuel: 25, Stack: 13}},
		{coded("call 1; 5* dup; ret", "trap"), api.Cert{Fuel: 2}, api.Cert{Fuel: 8, Stack: 6}},
		{coded("loop 2; call 1; pop; call 2; pop; again 0; trap", "const 0; zero 4; loop 2; again 2; const 0; ret", "const 0; zero 5; const 0; new 9; trap; const 0; ret"), api.Cert{Fuel: 34, Stack: 1, Heap: 9}, api.Cert{Fuel: 40, Stack: 1, Heap: 18}},
	} {
		most, all := greatest(t, x.m, 0, 1000)
		if certs := told(t, x.m); !all || most != x.most || certs[0] != x.want {
			t.Errorf("%v, not %v, of %v, not %v, of %v", most, x.most, certs[0], x.want, x.m)
		}
	}
}

// P12.4: without jumps and with no end but an OpRet behind all else, in a method and in all to which it leads, the run takes exactly that fuel and heap.
func TestRunsExact(t *testing.T) {
	exact, others := 0, 0
	for seed := range seeds {
		m := grown(seed)
		for k, c := range told(t, m) {
			if !straight(m, k) {
				others++
				continue
			}
			if took, _ := greatest(t, m, k, 1); took.Fuel != c.Fuel || took.Heap != c.Heap || took.Stack > c.Stack {
				t.Fatalf("%v, not %v, of method %d of %v", took, c, k, m)
			}
			exact++
		}
	}
	if exact < 400 || others < 400 {
		t.Errorf("%d and %d", exact, others)
	}
}

// straight tells whether neither the method nor any to which it leads has a jump, or an end elsewhere than an OpRet as its last instruction.
func straight(m api.Module, k int) bool {
	leads, _ := calls.Leads(m, k)
	return !slices.ContainsFunc(append(leads, k), func(k int) bool {
		code := m.Methods[k].Code
		last := len(code) - 1
		return code[last].Op != api.OpRet || slices.ContainsFunc(code[:last], func(i api.Instr) bool {
			return slices.Contains([]uint8{api.OpJump, api.OpZero, api.OpRet, api.OpTrap}, i.Op)
		})
	})
}
