package sample

import (
	"slices"

	"capstan/api"
	"capstan/cost"
	"capstan/module"
	"capstan/pure"
)

// parts are numbers that a part of a pair may be.
var parts = [...]int64{0, 1, -1, 2, -3, 1000, api.MaxPart, -api.MaxPart}

// numbers are integers that are likely to bring about something.
var numbers = [...]int64{0, 1, -1, 2, 3, 5, -7, 40, 1 << 32, 1<<63 - 1, -1 << 63}

// Value returns a value of that kind, which is not KdRef.
func (d *Dice) Value(kind uint8) api.Value {
	if kind == api.KdPair {
		return api.Value{Kind: kind, A: Pick(d, parts[:]), B: Pick(d, parts[:])}
	}
	return api.Value{Kind: kind, A: Pick(d, numbers[:])}
}

// kinds returns fewer than n kinds, each one of these letters.
func (d *Dice) kinds(n int, letters string) []uint8 {
	l := make([]uint8, d.Below(n))
	for i := range l {
		l[i] = Pick(d, Kinds(letters))
	}
	return l
}

// values returns fewer than n values that are no arrays.
func (d *Dice) values(n int) []api.Value {
	var l []api.Value
	for _, kind := range d.kinds(n, "np") {
		l = append(l, d.Value(kind))
	}
	return l
}

// grower makes the code of the method x of m, which may call some others. Each of its parts leaves on the stack what it found there.
type grower struct {
	*Dice
	m     api.Module
	x     api.Method
	lower []int
	code  []api.Instr
	depth int // of loops
}

// add appends code.
func (g *grower) add(text string) { g.code = append(g.code, Code(text)...) }

// on appends an instruction with an operand, and returns its index.
func (g *grower) on(opcode uint8, a int) int {
	g.code = append(g.code, api.Instr{Op: opcode, A: a})
	return len(g.code) - 1
}

// land has the jump at that index lead to the end of the code.
func (g *grower) land(at int) { g.code[at].A = len(g.code) }

// ready returns the instructions that push a value of that kind without taking any.
func (g *grower) ready(kind uint8) []api.Instr {
	var l []api.Instr
	for k, own := range slices.Concat(g.x.Args, g.x.Locals) {
		if own == kind {
			l = append(l, api.Instr{Op: api.OpGet, A: k})
		}
	}
	for k, v := range g.m.Globals {
		if v.Kind == kind {
			l = append(l, api.Instr{Op: api.OpLoad, A: k})
		}
	}
	for k, v := range g.m.Pool {
		if v.Kind == kind {
			l = append(l, api.Instr{Op: api.OpConst, A: k})
		}
	}
	return l
}

// call pushes the result of a method, if there is one of that kind that may be called, and tells whether there is.
func (g *grower) call(kind uint8, deep int) bool {
	var l []int
	for _, k := range g.lower {
		if g.m.Methods[k].Result == kind {
			l = append(l, k)
		}
	}
	if len(l) == 0 {
		return false
	}
	k := Pick(g.Dice, l)
	for _, own := range g.m.Methods[k].Args {
		g.push(own, deep-1)
	}
	g.on(api.OpCall, k)
	return true
}

// compute pushes the result of an operation of that kind.
func (g *grower) compute(kind uint8, deep int) {
	type operation struct{ name, takes string }
	var l []operation
	switch kind {
	case api.KdInt:
		l = []operation{{"add", "nn"}, {"sub", "nn"}, {"mul", "nn"}, {"div", "nn"}, {"rem", "nn"}, {"less", "nn"}, {"same", "nn"}, {"re", "p"}, {"im", "p"}, {"at", "rn"}, {"len", "r"}}
	case api.KdPair:
		l = []operation{{"pair", "nn"}, {"padd", "pp"}, {"pmul", "pp"}, {"conj", "p"}}
	default:
		g.push(api.KdInt, deep-1)
		g.on(api.OpNew, Pick(g.Dice, []int{0, 1, 2, 5, 9, 40}))
		return
	}
	chosen := Pick(g.Dice, l)
	for _, own := range Kinds(chosen.takes) {
		g.push(own, deep-1)
	}
	g.add(chosen.name)
}

// push pushes a value of that kind, at most as deep.
func (g *grower) push(kind uint8, deep int) {
	ready := g.ready(kind)
	switch n := g.Below(6); {
	case deep > 0 && n < 2 && g.call(kind, deep):
	case deep > 0 && n < 4 || len(ready) == 0:
		g.compute(kind, deep)
	default:
		g.code = append(g.code, Pick(g.Dice, ready))
	}
}

// keep takes a new value of some kind off the stack again: into a local or a global of that kind, or to be let go.
func (g *grower) keep() {
	kind := Pick(g.Dice, Kinds("nnpr"))
	g.push(kind, 2)
	l := []api.Instr{{Op: api.OpPop}}
	for _, i := range g.ready(kind) {
		switch i.Op {
		case api.OpGet:
			l = append(l, api.Instr{Op: api.OpSet, A: i.A})
		case api.OpLoad:
			l = append(l, api.Instr{Op: api.OpStore, A: i.A}, api.Instr{Op: api.OpStore, A: i.A})
		}
	}
	g.code = append(g.code, Pick(g.Dice, l))
}

// shuffle has several values on the stack for a while.
func (g *grower) shuffle() {
	for _, kind := range Pick(g.Dice, []string{"nn", "pn", "rp"}) {
		g.push(Kinds(string(kind))[0], 1)
	}
	g.add(Pick(g.Dice, []string{"swap; pop; pop", "dup; pop; swap; pop; pop", "pop; dup; swap; pop; pop", "nop; pop; pop"}))
}

// put stores a word in an array.
func (g *grower) put() {
	for _, kind := range Kinds("rnn") {
		g.push(kind, 1)
	}
	g.add("put")
}

// branch appends an OpZero, and what it jumps over.
func (g *grower) branch(nest int) {
	g.push(api.KdInt, 1)
	zero := g.on(api.OpZero, 0)
	switch g.Below(5) {
	case 0:
		g.end()
	case 1:
		g.on(api.OpTrap, g.Below(256))
	case 2:
		g.block(nest - 1)
		jump := g.on(api.OpJump, 0)
		if g.Below(2) == 0 {
			// What is not reached takes what it likes.
			g.add(Pick(g.Dice, []string{"padd", "new 3", "ret", "pop; pop", "nop"}))
		}
		g.land(zero)
		g.block(nest - 1)
		g.land(jump)
		return
	default:
		g.block(nest - 1)
	}
	g.land(zero)
}

// loop appends a loop of few turns, out of which it jumps in some cases.
func (g *grower) loop(nest int) {
	g.depth++
	from, out := g.on(api.OpLoop, 1+g.Below(4)), -1
	g.block(nest - 1)
	if g.Below(2) == 0 {
		g.push(api.KdInt, 1)
		out = g.on(api.OpZero, 0)
	}
	g.on(api.OpAgain, from)
	if out >= 0 {
		g.land(out)
	}
	g.depth--
}

// block appends a few parts.
func (g *grower) block(nest int) {
	for range 1 + g.Below(3) {
		switch n := g.Below(10); {
		case n < 2 && nest > 0 && g.depth < api.MaxNest:
			g.loop(nest)
		case n < 4 && nest > 0:
			g.branch(nest)
		case n == 4:
			g.put()
		case n == 5:
			g.shuffle()
		default:
			g.keep()
		}
	}
}

// end appends what ends the method with a result.
func (g *grower) end() {
	g.push(g.x.Result, 2)
	g.add("ret")
}

// order returns the numbers below n in some order.
func (d *Dice) order(n int) []int {
	l := make([]int, n)
	for k := range l {
		other := d.Below(k + 1)
		l[k] = l[other]
		l[other] = k
	}
	return l
}

// grow returns a module without certificates: of methods that type-check, and call only those that stand farther on in some order of all.
func (d *Dice) grow() api.Module {
	m := api.Module{Globals: d.values(api.MaxGlobals + 1), Pool: append([]api.Value{d.Value(api.KdInt), d.Value(api.KdPair)}, d.values(6)...), Migrate: -1}
	for range 1 + d.Below(6) {
		m.Methods = append(m.Methods, api.Method{Args: d.kinds(4, "nnpr"), Locals: d.kinds(4, "nnpr"), Result: Pick(d, Kinds("nnp"))})
	}
	var lower []int
	for _, k := range d.order(len(m.Methods)) {
		g := grower{Dice: d, m: m, x: m.Methods[k], lower: lower}
		g.block(2)
		g.end()
		m.Methods[k].Code = g.code
		lower = append(lower, k)
	}
	return m
}

// declare has the methods of m declare what they take: just that, or more, some of them as much as they may. Some of the methods that change nothing are declared so, and some method migrates, if there is one that can.
func (d *Dice) declare(m api.Module, certs []api.Cert) api.Module {
	pures, _ := pure.Pure(m)
	few := d.Below(4) == 0
	for k := range m.Methods {
		x, most := &m.Methods[k], Most()
		switch d.Below(3) {
		case 0:
			most = certs[k]
		case 1:
			most = api.Cert{Fuel: min(certs[k].Fuel+1, most.Fuel), Stack: min(certs[k].Stack+1, most.Stack), Heap: min(certs[k].Heap+1, most.Heap)}
		}
		x.Fuel, x.Stack, x.Heap = most.Fuel, most.Stack, most.Heap
		x.Reads = pures[k] && !few
		if d.Below(3) > 0 && !slices.Contains(x.Args, api.KdRef) {
			m.Migrate = k
		}
	}
	return m
}

// Module returns a module without errors, one for each seed: of up to 6 methods with all sorts of instructions, which call one another, but call none that could take long.
func Module(seed int) api.Module {
	d := Dice(seed)
	for {
		m := d.grow()
		certs, e := cost.Costs(Open(m))
		if e == api.OK && module.May(m) == api.OK && !slices.ContainsFunc(certs, func(c api.Cert) bool { return c.Fuel > 5000 }) {
			return d.declare(m, certs)
		}
	}
}
