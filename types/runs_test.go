package types_test

import (
	"slices"
	"strings"
	"testing"

	"capstan/api"
	"capstan/sample"
	"capstan/types"
)

// run is a run of a module's methods that looks at nothing but kinds, those that the values really have.
type run struct {
	m       api.Module
	rows    [][]types.Row // of each method
	globals []uint8
	branch  func() bool  // tells of each OpZero that is met whether it leads to its target
	fault   string       // what was found that should not be
	seen    map[int]bool // the indices that were reached of the method that was started
	steps   int
}

// most is how many instructions a run may execute: more than the loops of the samples let it.
const most = 1 << 20

// ready returns a run of m, whose methods have no errors.
func ready(t *testing.T, m api.Module) *run {
	t.Helper()
	r := &run{m: m, seen: map[int]bool{}}
	for k := range m.Methods {
		rows, e := types.Rows(m, k)
		if e != 0 {
			t.Fatalf("%d, of method %d of %v", e, k, m)
		}
		r.rows = append(r.rows, rows)
	}
	return r
}

// activation is a method of a run in progress.
type activation struct {
	k, at  int
	locals []uint8
	stack  []uint8
	left   map[int]int // the turns left, by the index of the OpLoop
}

// start runs the method k.
func (r *run) start(k int) {
	r.globals = nil
	for _, v := range r.m.Globals {
		r.globals = append(r.globals, v.Kind)
	}
	r.steps = 0
	r.call(k, slices.Clone(r.m.Methods[k].Args), 0)
}

// call executes the method k within so many others, and returns the kind of its result, and whether it came to an OpRet.
func (r *run) call(k int, args []uint8, depth int) (uint8, bool) {
	x := r.m.Methods[k]
	if depth > 4 {
		return x.Result, true // methods that call themselves are no matter of this layer
	}
	a := activation{k: k, locals: slices.Concat(args, x.Locals), left: map[int]int{}}
	for r.fault == "" {
		i := x.Code[a.at]
		if r.steps++; r.steps > most {
			r.fault = "no end"
			break
		}
		if depth == 0 {
			r.seen[a.at] = true
		}
		if row := r.rows[k][a.at]; !row.Reached || !slices.Equal(row.Kinds, a.stack) {
			r.fault = "another row"
			break
		}
		takes, _ := effectOf(r.m, x, i)
		rest := len(a.stack) - len(takes)
		if rest < 0 {
			r.fault = "fewer values"
			break
		}
		for n, want := range takes {
			if want != anyKind && want != int(a.stack[rest+n]) {
				r.fault = "another kind"
			}
		}
		taken := slices.Clone(a.stack[rest:])
		a.stack = a.stack[:rest]
		switch i.Op {
		case api.OpTrap:
			return 0, false
		case api.OpRet:
			return taken[0], true
		}
		if !r.execute(&a, i, taken, depth) {
			return 0, false
		}
	}
	return 0, false
}

// execute has the effect of an instruction that took these values, and tells whether to go on.
func (r *run) execute(a *activation, i api.Instr, taken []uint8, depth int) bool {
	a.at++
	switch i.Op {
	case api.OpConst:
		a.stack = append(a.stack, r.m.Pool[i.A].Kind)
	case api.OpGet:
		a.stack = append(a.stack, a.locals[i.A])
	case api.OpSet:
		a.locals[i.A] = taken[0]
	case api.OpLoad:
		a.stack = append(a.stack, r.globals[i.A])
	case api.OpStore:
		r.globals[i.A] = taken[0]
	case api.OpDup:
		a.stack = append(a.stack, taken[0], taken[0])
	case api.OpSwap:
		a.stack = append(a.stack, taken[1], taken[0])
	case api.OpJump:
		a.at = i.A
	case api.OpZero:
		if r.branch() {
			a.at = i.A
		}
	case api.OpLoop:
		a.left[a.at-1] = i.A
	case api.OpAgain:
		a.left[i.A]--
		if a.left[i.A] > 0 {
			a.at = i.A + 1
		}
	case api.OpCall:
		result, ended := r.call(i.A, taken, depth+1)
		if !ended {
			return false
		}
		a.stack = append(a.stack, result)
	default:
		_, gives := shapeOf(i.Op)
		a.stack = append(a.stack, kinds(gives)...)
	}
	return true
}

// branchings calls a function with ways to branch: all of them if they are few, and many otherwise.
func branchings(do func(branch func() bool)) {
	var path []bool
	for range 40 {
		at := 0
		do(func() bool {
			if at == len(path) {
				path = append(path, false)
			}
			at++
			return path[at-1]
		})
		// The next way is another one from the last OpZero on that did not branch.
		last := len(path) - 1
		for last >= 0 && path[last] {
			last--
		}
		if last < 0 {
			return
		}
		path = append(path[:last], true)
	}
	for often := range 9 {
		d := dice(often)
		do(func() bool { return d.below(8) < often })
	}
	for often := range 5 {
		n := 0
		do(func() bool {
			n++
			return n%(often+2) == 0
		})
	}
}

// P10.3: whichever way each OpZero branches, each time, a run finds at each index the kinds of its row, and at each instruction what it takes; in the methods that are called, too.
func TestRuns(t *testing.T) {
	for l := range typed() {
		r := ready(t, with(l))
		branchings(func(branch func() bool) {
			r.branch = branch
			r.start(0)
			if r.fault != "" {
				t.Fatalf("%s, in %v", r.fault, l)
			}
		})
	}
}

// P10.3: where both ways of each OpZero are taken, each index that is reached is reached by some run, and each one that is not by none.
func TestRunsReach(t *testing.T) {
	for _, text := range []string{"get 0; zero 3; trap; nop; get 0; ret", "get 2; get 0; zero 6; conj; jump 7; add; nop; re; ret", "get 0; loop 3; get 3; add; again 1; ret", "jump 3; add; ret; get 0; jump 6; pop; ret", "loop 2; get 0; zero 4; nop; again 0; get 0; ret; add; trap", "loop 2; trap; again 0; get 0; ret"} {
		r := ready(t, with(sample.Code(text)))
		branchings(func(branch func() bool) {
			r.branch = branch
			r.start(0)
		})
		for at, row := range r.rows[0] {
			if row.Reached != r.seen[at] || r.fault != "" {
				t.Errorf("at %d: %v, not %v, in %s: %s", at, row.Reached, r.seen[at], text, r.fault)
			}
		}
	}
}

// A run finds what is wrong in code that has an error, if it comes there: these tests can fail.
func TestRunsFind(t *testing.T) {
	for text, want := range map[string]string{
		"add; ret": "fewer values", "get 1; get 0; add; ret": "another kind", "get 0; zero 3; get 0; nop; trap": "another row", "loop 2; get 0; again 0; trap": "another row", "get 2; ret": "another kind", "get 0; set 2; trap": "another kind",
		"get 0; get 0; call 1; re; ret": "another kind",
	} {
		m := with(sample.Code(text))
		found := ""
		branchings(func(branch func() bool) {
			r := &run{m: m, branch: branch, seen: map[int]bool{}}
			for k := range m.Methods {
				rows, _ := types.Rows(m, k)
				if k == 0 {
					rows = guessed(text)
				}
				r.rows = append(r.rows, rows)
			}
			r.start(0)
			found += r.fault
		})
		if !strings.Contains(found, want) {
			t.Errorf("%q, not %q, of %s", found, want, text)
		}
	}
}

// guessed returns rows as they would be without any jump.
func guessed(text string) []types.Row {
	l := sample.Code(text)
	m := with(l)
	rows := make([]types.Row, len(l))
	var row []uint8
	for at, i := range l {
		rows[at] = types.Row{Reached: true, Kinds: row}
		takes, leaves := effectOf(m, m.Methods[0], i)
		if len(takes) > len(row) {
			break
		}
		rest := len(row) - len(takes)
		row = slices.Concat(row[:rest], leaves(row[rest:]))
	}
	return rows
}
