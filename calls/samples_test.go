package calls_test

import (
	"iter"
	"math"
	"slices"
	"strconv"
	"strings"
	"testing"

	"capstan/api"
	"capstan/calls"
	"capstan/sample"
)

// The errors, as the chapter numbers them.
const (
	badArg   api.Errno = 2
	badCycle api.Errno = 110
)

// call returns the instruction that calls the method k.
func call(k int) api.Instr { return api.Instr{Op: api.OpCall, A: k} }

// coded returns a module with a method of each code.
func coded(texts ...string) api.Module {
	m := api.Module{Migrate: -1}
	for _, text := range texts {
		m.Methods = append(m.Methods, api.Method{Result: api.KdInt, Code: sample.Code(text)})
	}
	return m
}

// listed returns a module whose methods call the listed ones, in that order, and do nothing else.
func listed(rows ...[]int) api.Module {
	m := api.Module{Migrate: -1}
	for _, whom := range rows {
		x := api.Method{Result: api.KdInt}
		for _, k := range whom {
			x.Code = append(x.Code, call(k))
		}
		m.Methods = append(m.Methods, x)
	}
	return m
}

// calling returns a module whose methods call those that the text names: methods with semicolons between, blanks between those that one calls.
func calling(text string) api.Module {
	var rows [][]int
	for row := range strings.SplitSeq(text, ";") {
		var whom []int
		for _, word := range strings.Fields(row) {
			k, err := strconv.Atoi(word)
			if err != nil {
				panic(err)
			}
			whom = append(whom, k)
		}
		rows = append(rows, whom)
	}
	return listed(rows...)
}

// idle returns a module of n methods that call nothing.
func idle(n int) api.Module { return listed(make([][]int, n)...) }

// does tells by the definition whether the method a of m calls the method b.
func does(m api.Module, a, b int) bool {
	return slices.ContainsFunc(m.Methods[a].Code, func(i api.Instr) bool { return i.Op == api.OpCall && i.A == b })
}

// lacks tells by the definition whether the method k of m calls one that does not exist.
func lacks(m api.Module, k int) bool {
	return slices.ContainsFunc(m.Methods[k].Code, func(i api.Instr) bool { return i.Op == api.OpCall && (i.A < 0 || i.A >= len(m.Methods)) })
}

// table tells for each method of a module, and each other one, something of the two.
type table [][]bool

// doing returns which method of m calls which.
func doing(m api.Module) table {
	d := make(table, len(m.Methods))
	for a := range d {
		d[a] = make([]bool, len(d))
		for b := range d {
			d[a][b] = does(m, a, b)
		}
	}
	return d
}

// leading returns by the definition which method leads to which, of those that call as d tells.
func (d table) leading() table {
	l := make(table, len(d))
	for a := range l {
		l[a] = slices.Clone(d[a])
	}
	for changed := true; changed; {
		changed = false
		for a := range l {
			for b := range l {
				if !l[a][b] {
					continue
				}
				for c := range l {
					if d[b][c] && !l[a][c] {
						l[a][c], changed = true, true
					}
				}
			}
		}
	}
	return l
}

// list returns the methods of which the row tells something, ascending.
func list(row []bool) []int {
	var l []int
	for k, is := range row {
		if is {
			l = append(l, k)
		}
	}
	return l
}

// orderOf returns the order by the definition, step by step.
func (d table) orderOf() []int {
	var order []int
	could := func(k int) bool {
		if slices.Contains(order, k) {
			return false
		}
		for _, to := range list(d[k]) {
			if !slices.Contains(order, to) {
				return false
			}
		}
		return true
	}
	for range d {
		for k := range d {
			if could(k) {
				order = append(order, k)
				break
			}
		}
	}
	return order
}

// deepOf returns by the definition the length of the longest chain of calls that begins with the method k, where no method leads to itself.
func (d table) deepOf(k int) int {
	ends := make([]bool, len(d)) // of the chains of that length
	ends[k] = true
	for length := 1; ; length++ {
		next := make([]bool, len(d))
		for _, a := range list(ends) {
			for _, b := range list(d[a]) {
				next[b] = true
			}
		}
		if !slices.Contains(next, true) {
			return length
		}
		ends = next
	}
}

// errorOf returns the error of m by the chapter's words, given which method leads to which.
func errorOf(m api.Module, leads table) api.Errno {
	for k := range m.Methods {
		if lacks(m, k) {
			return badArg
		}
	}
	for k := range leads {
		if leads[k][k] {
			return badCycle
		}
	}
	return 0
}

// far are indices of no method, whatever the module.
func far(n int) []int {
	return []int{-1, -2, -n - 1, n, n + 1, n + 256, 1 << 16, 1 << 32, 1<<32 + 1, math.MinInt, math.MaxInt}
}

// compareWhom holds Whom of all methods of m, and of others, against the chapter's words.
func compareWhom(t *testing.T, m api.Module, d table) {
	t.Helper()
	for k := range m.Methods {
		want, e := list(d[k]), api.OK
		if lacks(m, k) {
			want, e = nil, badArg
		}
		if whom, got := calls.Whom(m, k); !slices.Equal(whom, want) || got != e {
			t.Fatalf("Whom(%d): %v %d, not %v %d, of %v", k, whom, got, want, e, m)
		}
	}
	for _, k := range far(len(m.Methods)) {
		if whom, e := calls.Whom(m, k); len(whom) > 0 || e != badArg {
			t.Fatalf("Whom(%d): %v %d, of %v", k, whom, e, m)
		}
	}
}

// compareLeads holds Leads of all methods of m, and of others, against the chapter's words.
func compareLeads(t *testing.T, m api.Module, leads table, e api.Errno) {
	t.Helper()
	for k := range m.Methods {
		want := list(leads[k])
		if e != 0 {
			want = nil
		}
		if l, got := calls.Leads(m, k); !slices.Equal(l, want) || got != e {
			t.Fatalf("Leads(%d): %v %d, not %v %d, of %v", k, l, got, want, e, m)
		}
	}
	if e == 0 {
		e = badArg
	}
	for _, k := range far(len(m.Methods)) {
		if l, got := calls.Leads(m, k); len(l) > 0 || got != e {
			t.Fatalf("Leads(%d): %v %d, not %d, of %v", k, l, got, e, m)
		}
	}
}

// compare holds what all functions tell of m against the chapter's words, and returns the error of m by these.
func compare(t *testing.T, m api.Module) api.Errno {
	t.Helper()
	d := doing(m)
	leads := d.leading()
	e := errorOf(m, leads)
	var order, deep []int
	if e == 0 {
		order = d.orderOf()
		for k := range d {
			deep = append(deep, d.deepOf(k))
		}
	}
	compareWhom(t, m, d)
	compareLeads(t, m, leads, e)
	if got := calls.Check(m); got != e {
		t.Fatalf("Check: %d, not %d, of %v", got, e, m)
	}
	if l, got := calls.Order(m); !slices.Equal(l, order) || got != e {
		t.Fatalf("Order: %v %d, not %v %d, of %v", l, got, order, e, m)
	}
	if l, got := calls.Deep(m); !slices.Equal(l, deep) || got != e {
		t.Fatalf("Deep: %v %d, not %v %d, of %v", l, got, deep, e, m)
	}
	return e
}

// compareError holds the error of m against what it is to be, and what else is told of m against the chapter's words.
func compareError(t *testing.T, m api.Module, want api.Errno) {
	t.Helper()
	if e := compare(t, m); e != want {
		t.Errorf("%d, not %d, of %v", e, want, m)
	}
}

// dice yields numbers that look like chance, the same ones each time.
type dice uint64

// below returns the next number, which is below n.
func (d *dice) below(n int) int {
	*d = *d*6364136223846793005 + 1442695040888963407
	return int(uint64(*d)>>33) % n
}

// shuffled returns the numbers below n in some order.
func (d *dice) shuffled(n int) []int {
	l := make([]int, n)
	for k := range l {
		l[k] = k
	}
	for k := range l {
		other := k + d.below(n-k)
		l[k], l[other] = l[other], l[k]
	}
	return l
}

// noise returns some instructions that call nothing, valid ones and others, with operands that could be a method's index or could not.
func (d *dice) noise(n int) []api.Instr {
	l := make([]api.Instr, d.below(3))
	for i := range l {
		opcode := uint8(d.below(256))
		if opcode == api.OpCall {
			opcode = api.OpRet
		}
		l[i] = api.Instr{Op: opcode, A: d.below(n+4) - 2, B: d.below(2)}
	}
	return l
}

// all yields all modules of n methods: each method calls each one or does not, itself too. Each in turn is memory of its own.
func all(n int) iter.Seq[api.Module] {
	return func(yield func(api.Module) bool) {
		for bits := range 1 << (n * n) {
			rows := make([][]int, n)
			for k := range n * n {
				if bits>>k&1 == 1 {
					rows[k/n] = append(rows[k/n], k%n)
				}
			}
			if !yield(listed(rows...)) {
				return
			}
		}
	}
}

// grown returns a module of up to 24 methods, one for each seed. They call methods that stand farther on in some order of all, some of them several times, among instructions that call nothing.
func grown(seed int) api.Module {
	d := dice(seed)
	n := 1 + d.below(24)
	places := d.shuffled(n)
	every := 1 + d.below(n+2)
	rows := make([][]api.Instr, n)
	for a := range n {
		rows[a] = d.noise(n)
		for _, b := range d.shuffled(n) {
			if places[a] >= places[b] || d.below(every) > 0 {
				continue
			}
			for range 1 + d.below(2) {
				rows[a] = append(append(rows[a], call(b)), d.noise(n)...)
			}
		}
	}
	m := idle(n)
	for k := range rows {
		m.Methods[k].Code = rows[k]
	}
	return m
}

// seeds is how many samples are grown.
const seeds = 600

// inserted returns a copy of m in which the method k has one more instruction, at that index of its code.
func inserted(m api.Module, k, at int, i api.Instr) api.Module {
	m.Methods = slices.Clone(m.Methods)
	m.Methods[k].Code = slices.Insert(slices.Clone(m.Methods[k].Code), at, i)
	return m
}

// What the samples are to be: of all sorts, and all of them well-founded.
func TestSamples(t *testing.T) {
	lone, early, crowded, deepest := 0, 0, 0, 0
	for seed := range seeds {
		m := grown(seed)
		d := doing(m)
		if e := errorOf(m, d.leading()); e != 0 {
			t.Fatalf("%d, of %v", e, m)
		}
		if len(m.Methods) == 1 {
			lone++
		}
		if order := d.orderOf(); !slices.IsSorted(order) {
			early++
		}
		for k := range d {
			deepest = max(deepest, d.deepOf(k))
			if len(list(d[k])) > 4 {
				crowded++
			}
		}
	}
	if lone < 5 || early < 400 || crowded < 400 || deepest < 10 {
		t.Errorf("%d of one method, %d in another order, %d that call many, chains of up to %d", lone, early, crowded, deepest)
	}
}
