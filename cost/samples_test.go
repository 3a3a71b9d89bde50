package cost_test

import (
	"iter"
	"math/big"
	"slices"
	"testing"

	"capstan/api"
	"capstan/calls"
	"capstan/cost"
	"capstan/flow"
	"capstan/op"
	"capstan/sample"
	"capstan/types"
)

// The errors, as the chapters number them.
const (
	badArg   api.Errno = 2
	badOp    api.Errno = 40
	badJump  api.Errno = 90
	badType  api.Errno = 100
	badStack api.Errno = 101
	badCycle api.Errno = 110
	badCost  api.Errno = 120
)

// The limits, as the document has them.
const (
	maxFuel  = 1048576
	maxStack = 256
	maxHeap  = 1024
)

// methodOf returns a method of these kinds whose result is an integer; it declares as much as may be.
func methodOf(args, locals, text string) api.Method {
	return api.Method{Args: sample.Kinds(args), Locals: sample.Kinds(locals), Result: api.KdInt, Fuel: maxFuel, Stack: maxStack, Heap: maxHeap, Code: sample.Code(text)}
}

// with returns a module of these methods, with globals np and constants npn.
func with(l ...api.Method) api.Module {
	return api.Module{Globals: sample.Values("np"), Pool: sample.Values("npn"), Methods: l, Migrate: -1}
}

// coded returns a module with a method without arguments and locals of each code.
func coded(texts ...string) api.Module {
	m := with()
	for _, text := range texts {
		m.Methods = append(m.Methods, methodOf("", "", text))
	}
	return m
}

// replaced returns a copy of m in which the method k has that code.
func replaced(m api.Module, k int, text string) api.Module {
	m.Methods = slices.Clone(m.Methods)
	m.Methods[k].Code = sample.Code(text)
	return m
}

// timesOf returns by the definition how often the index of well-formed code can be executed at most.
func timesOf(code []api.Instr, at int) *big.Int {
	times := big.NewInt(1)
	for to, i := range code {
		if i.Op == api.OpAgain && i.A < at && at <= to {
			times.Mul(times, big.NewInt(int64(code[i.A].A)))
		}
	}
	return times
}

// bill is a certificate whose numbers may be of any size.
type bill struct {
	fuel, heap *big.Int
	stack      int
}

// bills are the certificates of the methods of a module, each by the chapter's words, as they are asked for.
type bills struct {
	m     api.Module
	known map[int]bill
}

// of returns the certificate of the method k.
func (b bills) of(k int) bill {
	if x, is := b.known[k]; is {
		return x
	}
	rows, _ := types.Rows(b.m, k)
	x := bill{fuel: new(big.Int), heap: new(big.Int)}
	code := b.m.Methods[k].Code
	locals := len(slices.Concat(b.m.Methods[k].Args, b.m.Methods[k].Locals))
	x.stack = locals
	for at, i := range code {
		x.stack = max(x.stack, locals+len(rows[at].Kinds))
		fuel, heap := big.NewInt(1), new(big.Int)
		if op.Name(i.Op) == "new" {
			heap.SetInt64(int64(i.A))
		}
		if op.Name(i.Op) == "call" {
			called := b.of(i.A)
			fuel.Add(fuel, called.fuel)
			heap.Set(called.heap)
			if rows[at].Reached {
				x.stack = max(x.stack, locals+len(rows[at].Kinds)-len(b.m.Methods[i.A].Args)+called.stack)
			}
		}
		times := timesOf(code, at)
		x.fuel.Add(x.fuel, fuel.Mul(fuel, times))
		x.heap.Add(x.heap, heap.Mul(heap, times))
	}
	b.known[k] = x
	return x
}

// fits tells by the definition whether a certificate fits a method.
func (x bill) fits(y api.Method) bool {
	for _, n := range []struct {
		is              *big.Int
		declared, limit int
	}{{x.fuel, y.Fuel, maxFuel}, {big.NewInt(int64(x.stack)), y.Stack, maxStack}, {x.heap, y.Heap, maxHeap}} {
		if n.is.Sign() < 0 || n.is.Cmp(big.NewInt(int64(n.declared))) > 0 || n.is.Cmp(big.NewInt(int64(n.limit))) > 0 {
			return false
		}
	}
	return true
}

// certsOf returns by the chapter's words the certificates of m, or its error.
func certsOf(m api.Module) ([]api.Cert, api.Errno) {
	if e := calls.Check(m); e != 0 {
		return nil, e
	}
	for k := range m.Methods {
		if e := types.Check(m, k); e != 0 {
			return nil, e
		}
	}
	var certs []api.Cert
	b := bills{m, map[int]bill{}}
	for k, x := range m.Methods {
		c := b.of(k)
		if !c.fits(x) {
			return nil, badCost
		}
		certs = append(certs, api.Cert{Fuel: int(c.fuel.Int64()), Stack: c.stack, Heap: int(c.heap.Int64())})
	}
	return certs, 0
}

// compare holds what the package tells of m against the chapter's words, and returns what these are.
func compare(t *testing.T, m api.Module) ([]api.Cert, api.Errno) {
	t.Helper()
	want, e := certsOf(m)
	certs, got := cost.Costs(m)
	if other := cost.Check(m); got != e || other != e || !slices.Equal(certs, want) {
		t.Fatalf("Costs: %v %d, Check: %d, not %v %d, of %v", certs, got, other, want, e, m)
	}
	return want, e
}

// compareError holds the error of m against what it is to be, and what else is told of m against the chapter's words.
func compareError(t *testing.T, m api.Module, want api.Errno) {
	t.Helper()
	if _, e := compare(t, m); e != want {
		t.Errorf("%d, not %d, of %v", e, want, m)
	}
}

// compareCerts holds the certificates of m against what they are to be, and these against the chapter's words.
func compareCerts(t *testing.T, m api.Module, want ...api.Cert) {
	t.Helper()
	if certs, e := compare(t, m); e != 0 || !slices.Equal(certs, want) {
		t.Errorf("%v %d, not %v, of %v", certs, e, want, m)
	}
}

// dice yields numbers that look like chance, the same ones each time.
type dice uint64

// below returns the next number, which is below n.
func (d *dice) below(n int) int {
	*d = *d*6364136223846793005 + 1442695040888963407
	return int(uint64(*d)>>33) % n
}

// pick returns one of the letters.
func (d *dice) pick(text string) uint8 { return sample.Kinds(text)[d.below(len(text))] }

// some returns up to n kinds.
func (d *dice) some(n int) []uint8 {
	l := make([]uint8, d.below(n+1))
	for i := range l {
		l[i] = d.pick("nnpr")
	}
	return l
}

// shuffled returns the numbers below n in some order.
func (d *dice) shuffled(n int) []int {
	l := make([]int, n)
	for k := range l {
		l[k] = k
	}
	for k := range l {
		other := k + d.below(n-k)
		l[k], l[other] = l[other], l[k]
	}
	return l
}

// effect returns what an instruction of the method takes, where row ends in it, and leaves; not, if the row does not suit it.
func effect(m api.Module, x api.Method, i api.Instr, row []uint8) (takes, leaves []uint8, is bool) {
	locals := slices.Concat(x.Args, x.Locals)
	switch op.Name(i.Op) {
	case "const":
		leaves = []uint8{m.Pool[i.A].Kind}
	case "get":
		leaves = []uint8{locals[i.A]}
	case "load":
		leaves = []uint8{m.Globals[i.A].Kind}
	case "set":
		takes = []uint8{locals[i.A]}
	case "store":
		takes = []uint8{m.Globals[i.A].Kind}
	case "pop", "dup":
		if len(row) < 1 {
			return nil, nil, false
		}
		takes = row[len(row)-1:]
		if i.Op == api.OpDup {
			leaves = slices.Repeat(takes, 2)
		}
	case "swap":
		if len(row) < 2 {
			return nil, nil, false
		}
		takes = row[len(row)-2:]
		leaves = []uint8{takes[1], takes[0]}
	case "call":
		takes, leaves = m.Methods[i.A].Args, []uint8{m.Methods[i.A].Result}
	case "ret":
		takes = []uint8{x.Result}
	default:
		shape, _ := op.Of(i.Op)
		takes, leaves = shape.Takes, shape.Gives
	}
	from := len(row) - len(takes)
	return takes, leaves, from >= 0 && slices.Equal(row[from:], takes)
}

// grower makes code for the method k of m that type-checks. Its row is what stands on the stack where the code ends now.
type grower struct {
	*dice
	m        api.Module
	k        int
	choice   []api.Instr // those that may stand in the code, beside jumps and loops
	straight bool        // without jumps
	code     []api.Instr
	row      []uint8
	depth    int // of loops
}

// may tells whether the instruction suits the row, and returns the row behind it.
func (g *grower) may(i api.Instr) ([]uint8, bool) {
	takes, leaves, is := effect(g.m, g.m.Methods[g.k], i, g.row)
	if !is {
		return nil, false
	}
	return slices.Concat(g.row[:len(g.row)-len(takes)], leaves), true
}

// add appends an instruction, which suits the row.
func (g *grower) add(i api.Instr) {
	row, is := g.may(i)
	if !is {
		panic(i)
	}
	g.code, g.row = append(g.code, i), row
}

// choices returns instructions of a method of so many locals that go on to the next one, calls of these methods among them.
func choices(locals int, lower []int) []api.Instr {
	l := sample.Code("nop; const 0; const 1; const 2; load 0; load 1; store 0; store 1; pop; dup; swap; add; less; pair; re; im; padd; conj; new 0; new 1; new 7; at; put; len")
	for at := range locals {
		l = append(l, api.Instr{Op: api.OpGet, A: at}, api.Instr{Op: api.OpSet, A: at})
	}
	for _, k := range lower {
		l = append(l, slices.Repeat([]api.Instr{{Op: api.OpCall, A: k}}, 3)...)
	}
	return l
}

// push pushes a value of that kind.
func (g *grower) push(kind uint8) {
	row := append(slices.Clone(g.row), kind)
	var l []api.Instr
	for _, i := range g.choice {
		if after, is := g.may(i); is && slices.Equal(after, row) {
			l = append(l, i)
		}
	}
	if len(l) == 0 {
		g.add(api.Instr{Op: api.OpConst})
		g.add(api.Instr{Op: api.OpNew, A: g.below(9)})
		return
	}
	g.add(l[g.below(len(l))])
}

// plain appends an instruction that goes on to the next one and takes no value of those below base, with what it takes ahead of it.
func (g *grower) plain(base int) {
	i := g.choice[g.below(len(g.choice))]
	if i.Op == api.OpCall {
		for _, kind := range g.m.Methods[i.A].Args {
			g.push(kind)
		}
		g.add(i)
		return
	}
	takes, _, is := effect(g.m, g.m.Methods[g.k], i, g.row)
	if !is || len(g.row)-len(takes) < base || len(g.row) > base+8 {
		g.push(g.pick("npr"))
		return
	}
	g.add(i)
}

// drop pops what stands above base.
func (g *grower) drop(base int) {
	for len(g.row) > base {
		g.add(api.Instr{Op: api.OpPop})
	}
}

// dead appends instructions that are not reached, whatever they take.
func (g *grower) dead() {
	for range g.below(3) {
		g.code = append(g.code, append(sample.Code("new 5; ret; trap 3"), g.choice...)[g.below(len(g.choice)+3)])
	}
}

// branch appends an OpZero that jumps over a part, which in some cases never goes on, or jumps over another one that is the other way.
func (g *grower) branch(nest int) {
	base := len(g.row)
	g.push(api.KdInt)
	from := len(g.code)
	g.add(api.Instr{Op: api.OpZero})
	row := g.row
	g.block(nest - 1)
	switch g.below(4) {
	case 0:
		g.push(g.m.Methods[g.k].Result)
		g.add(api.Instr{Op: api.OpRet})
		g.dead()
	case 1:
		g.add(api.Instr{Op: api.OpTrap, A: 5})
		g.dead()
	case 2:
		g.drop(base)
		over := len(g.code)
		g.add(api.Instr{Op: api.OpJump})
		g.dead()
		g.code[from].A = len(g.code)
		g.row = row
		g.block(nest - 1)
		g.drop(base)
		g.code[over].A = len(g.code)
		return
	default:
		g.drop(base)
	}
	g.code[from].A = len(g.code)
	g.row = row
}

// loop appends a loop, with a part inside it, out of which it jumps in some cases.
func (g *grower) loop(nest int) {
	base, out := len(g.row), -1
	g.depth++
	from := len(g.code)
	g.add(api.Instr{Op: api.OpLoop, A: 1 + g.below(3)})
	g.block(nest - 1)
	g.drop(base)
	if !g.straight && g.below(2) == 0 {
		g.push(api.KdInt)
		out = len(g.code)
		g.add(api.Instr{Op: api.OpZero})
		g.block(nest - 1)
		g.drop(base)
	}
	g.add(api.Instr{Op: api.OpAgain, A: from})
	if out >= 0 {
		g.code[out].A = len(g.code)
	}
	g.depth--
}

// block appends a part that leaves what stood on the stack ahead of it, in some cases with other values above it.
func (g *grower) block(nest int) {
	base := len(g.row)
	for range 1 + g.below(4) {
		switch n := g.below(8); {
		case n < 2 && nest > 0 && g.depth < 4:
			g.loop(nest)
		case n == 2 && nest > 0 && !g.straight:
			g.branch(nest)
		default:
			g.plain(base)
		}
	}
}

// run appends parts, and the end.
func (g *grower) run(nest int) {
	for range 1 + g.below(3) {
		g.block(nest)
	}
	g.push(g.m.Methods[g.k].Result)
	g.add(api.Instr{Op: api.OpRet})
}

// Runs of a sample are to end soon: most is the greatest fuel of its methods.
const most = 4000

// moderate tells whether the method k of m fits, and its runs end soon.
func moderate(m api.Module, k int) bool {
	c := bills{m, map[int]bill{}}.of(k)
	return c.fits(m.Methods[k]) && c.fuel.Int64() <= most
}

// grown returns a module of up to 7 methods that type-check and fit, one for each seed. They call those that stand farther on in some order of all; about half of them have no jumps.
func grown(seed int) api.Module {
	d := dice(seed)
	m := with()
	for range 1 + d.below(7) {
		x := methodOf("", "", "")
		x.Args, x.Locals, x.Result = d.some(3), d.some(3), d.pick("np")
		m.Methods = append(m.Methods, x)
	}
	var lower []int
	for _, k := range d.shuffled(len(m.Methods)) {
		straight := d.below(2) == 0
		for nest := 3; ; nest = max(nest-1, 0) {
			g := grower{dice: &d, m: m, k: k, straight: straight, choice: choices(len(m.Methods[k].Args)+len(m.Methods[k].Locals), lower)}
			g.run(nest)
			m.Methods[k].Code = g.code
			if len(g.code) <= 200 && moderate(m, k) {
				break
			}
			if nest == 0 {
				lower = nil
			}
		}
		lower = append(lower, k)
	}
	return m
}

// small yields modules whose method 0 has up to four instructions of some sorts ahead of an OpTrap; those whose code is not well-formed are left out.
func small() iter.Seq[api.Module] {
	return func(yield func(api.Module) bool) {
		m := with(methodOf("", "", ""), methodOf("", "", "const 0; zero 5; const 0; new 3; pop; const 0; ret"), methodOf("n", "", "get 0; dup; add; ret"))
		for n := range 5 {
			of := sample.Code("const 0; pop; dup; add; new 2; loop 3; call 1; call 2; trap")
			for a := range n + 1 {
				of = append(of, api.Instr{Op: api.OpAgain, A: a}, api.Instr{Op: api.OpJump, A: a}, api.Instr{Op: api.OpZero, A: a})
			}
			for l := range sequences(n, of) {
				m.Methods = slices.Clone(m.Methods)
				m.Methods[0].Code = append(l, api.Instr{Op: api.OpTrap})
				if flow.Check(m.Methods[0].Code) == 0 && !yield(m) {
					return
				}
			}
		}
	}
}

// sequences yields all sequences of n of the instructions.
func sequences(n int, of []api.Instr) iter.Seq[[]api.Instr] {
	return func(yield func([]api.Instr) bool) {
		digits := make([]int, n)
		for {
			var l []api.Instr
			for _, d := range digits {
				l = append(l, of[d])
			}
			if !yield(l) {
				return
			}
			k := 0
			for k < n && digits[k] == len(of)-1 {
				digits[k] = 0
				k++
			}
			if k == n {
				return
			}
			digits[k]++
		}
	}
}

// seeds is how many samples are grown.
const seeds = 400

// What the samples are to be: of all sorts.
func TestSamples(t *testing.T) {
	calling, looped, dead, heavy, high, deep := 0, 0, 0, 0, 0, 0
	for seed := range seeds {
		m := grown(seed)
		certs, e := certsOf(m)
		if e != 0 {
			t.Fatalf("%d, of %v", e, m)
		}
		for k, x := range m.Methods {
			rows, _ := types.Rows(m, k)
			for at, i := range x.Code {
				if i.Op == api.OpCall {
					calling++
				}
				if i.Op == api.OpCall && timesOf(x.Code, at).Int64() > 3 {
					looped++
				}
				if (i.Op == api.OpCall || i.Op == api.OpNew) && !rows[at].Reached {
					dead++
				}
			}
			if certs[k].Heap > 100 {
				heavy++
			}
			high = max(high, certs[k].Stack)
		}
		l, _ := calls.Deep(m)
		deep = max(deep, slices.Max(l))
	}
	if calling < 1000 || looped < 300 || dead < 50 || heavy < 100 || high < 30 || deep < 5 {
		t.Errorf("%d calls, %d in loops, %d calls and arrays that are not reached, %d methods with much heap, stacks of up to %d, chains of up to %d", calling, looped, dead, heavy, high, deep)
	}
}
