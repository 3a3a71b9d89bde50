package pure_test

import (
	"iter"
	"math"
	"slices"
	"strconv"
	"strings"
	"testing"

	"capstan/api"
	"capstan/code"
	"capstan/module"
	"capstan/pure"
)

// The errors, as the chapter numbers them.
const (
	badArg  api.Errno = 2
	badPure api.Errno = 130
)

// The opcodes that matter here, as the document numbers them.
const (
	opStore = 5
	opCall  = 30
)

// store is an instruction that stores.
var store = api.Instr{Op: opStore}

// call returns the instruction that calls the method k.
func call(k int) api.Instr { return api.Instr{Op: opCall, A: k} }

// written returns the code that is written as in the chapters, with semicolons between.
func written(text string) []api.Instr {
	l, e := code.Parse(strings.ReplaceAll(text, "; ", "\n") + "\n")
	if e != 0 {
		panic(text)
	}
	return l
}

// made returns the module that the text tells: methods with semicolons between. Of a method it tells in order whom it calls (numbers), where it stores (s) and where it does nothing (n), and whether Reads is true (r).
func made(text string) api.Module {
	m := api.Module{Migrate: -1}
	for row := range strings.SplitSeq(text, ";") {
		x := api.Method{Result: 1}
		for _, word := range strings.Fields(row) {
			switch word {
			case "s":
				x.Code = append(x.Code, store)
			case "n":
				x.Code = append(x.Code, api.Instr{})
			case "r":
				x.Reads = true
			default:
				k, err := strconv.Atoi(word)
				if err != nil {
					panic(err)
				}
				x.Code = append(x.Code, call(k))
			}
		}
		m.Methods = append(m.Methods, x)
	}
	return m
}

// idle returns a module of n methods without code.
func idle(n int) api.Module { return api.Module{Methods: make([]api.Method, n), Migrate: -1} }

// storing tells by the definition whether the method k of m stores.
func storing(m api.Module, k int) bool {
	for _, i := range m.Methods[k].Code {
		if i.Op == opStore {
			return true
		}
	}
	return false
}

// calling tells by the definition whether the method a of m calls the method b.
func calling(m api.Module, a, b int) bool {
	for _, i := range m.Methods[a].Code {
		if i.Op == opCall && i.A == b {
			return true
		}
	}
	return false
}

// lacking tells by the definition whether any method of m calls one that does not exist.
func lacking(m api.Module) bool {
	for _, x := range m.Methods {
		for _, i := range x.Code {
			if i.Op == opCall && (i.A < 0 || i.A >= len(m.Methods)) {
				return true
			}
		}
	}
	return false
}

// table tells for each method of a module, and each other one, something of the two.
type table [][]bool

// doing returns which method of m calls which.
func doing(m api.Module) table {
	d := make(table, len(m.Methods))
	for a := range d {
		d[a] = make([]bool, len(d))
		for b := range d {
			d[a][b] = calling(m, a, b)
		}
	}
	return d
}

// leading returns by the definition which method leads to which, of those that call as d tells.
func (d table) leading() table {
	l := make(table, len(d))
	for a := range l {
		l[a] = slices.Clone(d[a])
	}
	for by := range l {
		for a := range l {
			for b := range l {
				l[a][b] = l[a][b] || l[a][by] && l[by][b]
			}
		}
	}
	return l
}

// soundly tells by the definition whether the declarations of m are sound.
func soundly(m api.Module, d table) bool {
	for k, x := range m.Methods {
		if !x.Reads {
			continue
		}
		if storing(m, k) {
			return false
		}
		for to, other := range m.Methods {
			if d[k][to] && !other.Reads {
				return false
			}
		}
	}
	return true
}

// purity tells by the definition of each method of m whether it is pure.
func purity(m api.Module, leads table) []bool {
	l := make([]bool, len(m.Methods))
	for k := range l {
		l[k] = !storing(m, k)
		for to := range l {
			if leads[k][to] && storing(m, to) {
				l[k] = false
			}
		}
	}
	return l
}

// declared returns a copy of m in which Reads is as told.
func declared(m api.Module, reads []bool) api.Module {
	m = module.Copy(m)
	for k, is := range reads {
		m.Methods[k].Reads = is
	}
	return m
}

// far are indices of no method, whatever the module.
func far(n int) []int {
	return []int{-1, -2, -n - 1, n, n + 1, n + 256, 1 << 16, 1 << 32, 1<<32 + 1, math.MinInt, math.MaxInt}
}

// compareStores holds Stores of all methods of m, and of others, against the chapter's words.
func compareStores(t *testing.T, m api.Module) {
	t.Helper()
	for k := range m.Methods {
		if is, e := pure.Stores(m, k); is != storing(m, k) || e != 0 {
			t.Fatalf("Stores(%d): %v %d, of %v", k, is, e, m)
		}
	}
	for _, k := range far(len(m.Methods)) {
		if is, e := pure.Stores(m, k); is || e != badArg {
			t.Fatalf("Stores(%d): %v %d, of %v", k, is, e, m)
		}
	}
}

// answered holds what is told of m against what it is to be. Together with an error all else is to be zero.
func answered(t *testing.T, m api.Module, check api.Errno, reads []bool, e api.Errno) {
	t.Helper()
	if got := pure.Check(m); got != check {
		t.Fatalf("Check: %d, not %d, of %v", got, check, m)
	}
	if l, got := pure.Pure(m); !slices.Equal(l, reads) || got != e {
		t.Fatalf("Pure: %v %d, not %v %d, of %v", l, got, reads, e, m)
	}
	said := api.Module{}
	if e == 0 {
		said = declared(m, reads)
	}
	if w, got := pure.Say(m); !module.Same(w, said) || got != e {
		t.Fatalf("Say: %v %d, not %v %d", w, got, said, e)
	}
}

// compare holds what all functions tell of m against the chapter's words, and returns what Check is to say.
func compare(t *testing.T, m api.Module) api.Errno {
	t.Helper()
	compareStores(t, m)
	if lacking(m) {
		answered(t, m, badArg, nil, badArg)
		return badArg
	}
	d := doing(m)
	check := api.OK
	if !soundly(m, d) {
		check = badPure
	}
	answered(t, m, check, purity(m, d.leading()), 0)
	return check
}

// compareCheck holds what Check says of m against what it is to be, and what else is told of m against the chapter's words.
func compareCheck(t *testing.T, m api.Module, want api.Errno) {
	t.Helper()
	if e := compare(t, m); e != want {
		t.Errorf("%d, not %d, of %v", e, want, m)
	}
}

// inserted returns a copy of m in which the method k has one more instruction, at that index of its code.
func inserted(m api.Module, k, at int, i api.Instr) api.Module {
	m = module.Copy(m)
	m.Methods[k].Code = slices.Insert(m.Methods[k].Code, at, i)
	return m
}

// bits returns as many values as n, each of them true if its bit of b is 1.
func bits(b, n int) []bool {
	l := make([]bool, n)
	for k := range l {
		l[k] = b>>k&1 == 1
	}
	return l
}

// all yields all modules of n methods of which Reads is false: each method stores or does not, and calls each one or does not, itself too. Each in turn is memory of its own.
func all(n int) iter.Seq[api.Module] {
	return func(yield func(api.Module) bool) {
		for b := range 1 << (n*n + n) {
			m := idle(n)
			for k, is := range bits(b, n*n+n) {
				x := &m.Methods[k%n]
				switch {
				case is && k < n*n:
					x.Code = append(x.Code, call(k/n))
				case is:
					x.Code = append(x.Code, store)
				}
			}
			if !yield(m) {
				return
			}
		}
	}
}

// dice yields numbers that look like chance, the same ones each time.
type dice uint64

// below returns the next number, which is below n.
func (d *dice) below(n int) int {
	*d = *d*6364136223846793005 + 1442695040888963407
	return int(uint64(*d)>>33) % n
}

// noise returns some instructions that neither call nor store, valid ones and others.
func (d *dice) noise(n int) []api.Instr {
	l := make([]api.Instr, d.below(3))
	for i := range l {
		opcode := uint8(d.below(256))
		if opcode == opCall || opcode == opStore {
			opcode++
		}
		l[i] = api.Instr{Op: opcode, A: d.below(n+4) - 2, B: d.below(2)}
	}
	return l
}

// kinds returns some kinds, valid ones and others.
func (d *dice) kinds() []uint8 {
	l := make([]uint8, d.below(4))
	for i := range l {
		l[i] = uint8(d.below(6))
	}
	return l
}

// values returns some values, valid ones and others.
func (d *dice) values() []api.Value {
	l := make([]api.Value, d.below(4))
	for i := range l {
		l[i] = api.Value{Kind: uint8(d.below(5)), A: int64(d.below(9)), B: int64(d.below(9))}
	}
	return l
}

// grown returns a module of up to 24 methods, one for each seed: with few calls or many, rounds of calls among them, with few methods that store or many, and with something in all other parts.
func grown(seed int) api.Module {
	d := dice(seed)
	n := 1 + d.below(24)
	m := idle(n)
	m.Globals, m.Pool, m.Migrate = d.values(), d.values(), d.below(n+2)-2
	every, few := 1+d.below(3*n), 1+d.below(12)
	for k := range n {
		l := d.noise(n)
		for range d.below(2 * n) {
			if d.below(every) == 0 {
				l = append(append(l, call(d.below(n))), d.noise(n)...)
			}
		}
		if d.below(few) == 0 {
			l = slices.Insert(l, d.below(len(l)+1), api.Instr{Op: opStore, A: d.below(6) - 1, B: d.below(2)})
		}
		m.Methods[k] = api.Method{
			Args: d.kinds(), Locals: d.kinds(), Result: uint8(d.below(4)), Reads: d.below(2) == 0,
			Fuel: d.below(99) - 9, Stack: d.below(99) - 9, Heap: d.below(99) - 9, Code: l,
		}
	}
	return m
}

// seeds is how many samples are grown.
const seeds = 1500

// What the samples are to be: of all sorts.
func TestSamples(t *testing.T) {
	lone, rounds, pures, changed, mixed := 0, 0, 0, 0, 0
	for seed := range seeds {
		m := grown(seed)
		if lacking(m) {
			t.Fatalf("%v calls what does not exist", m)
		}
		leads := doing(m).leading()
		l := purity(m, leads)
		if len(m.Methods) == 1 {
			lone++
		}
		if slices.Contains(l, true) && slices.Contains(l, false) {
			mixed++
		}
		for k := range l {
			switch {
			case leads[k][k]:
				rounds++
			case l[k]:
				pures++
			case !storing(m, k):
				changed++
			}
		}
	}
	if lone < 20 || rounds < 2000 || pures < 2000 || changed < 1000 || mixed < 500 {
		t.Errorf("%d of one method, %d methods in rounds, of the others %d pure and %d not, %d of both sorts", lone, rounds, pures, changed, mixed)
	}
}
