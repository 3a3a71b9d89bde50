package machine_test

import (
	"math/big"
	"slices"

	"capstan/api"
	"capstan/machine"
	"capstan/op"
	"capstan/sample"
)

// The errors as the chapter numbers them.
const (
	badArg   api.Errno = 2
	badFull  api.Errno = 4
	badOp    api.Errno = 40
	badStack api.Errno = 101
	badFuel  api.Errno = 170
)

// The traps as the document numbers them.
const (
	byZero  = 1
	noPlace = 2
	beyond  = 3
	own     = 16
)

// The limits as the document says them.
const (
	mostPart   = 1 << 20
	mostLocals = 16
	mostStack  = 256
	mostHeap   = 1024
	mostFuel   = 1 << 20
)

// opcodes is how many there are.
const opcodes = 33

// question is what is asked of the machine.
type question struct {
	m             api.Module
	method        int
	args, globals []api.Value
	limit         api.Cert
}

// answer is what it answers.
type answer struct {
	after []api.Value
	out   api.Outcome
	used  api.Cert
	e     api.Errno
}

// same tells whether two answers are equal.
func (a answer) same(b answer) bool {
	return slices.Equal(a.after, b.after) && a.out == b.out && a.used == b.used && a.e == b.e
}

// ask returns what the machine answers.
func (q question) ask() (a answer) {
	a.after, a.out, a.used, a.e = machine.Run(q.m, q.method, q.args, q.globals, q.limit)
	return a
}

// level is a frame of a model.
type level struct {
	x             api.Method
	locals, stack []api.Value
	at            int
	left          map[int]int
}

// model is a run as the chapter describes it.
type model struct {
	m           api.Module
	limit, used api.Cert
	globals     []api.Value
	arrays      [][]int64
	levels      []*level
}

// stop is how the steps of a model end: with a trap, an error, or a result.
type stop struct {
	trap   int
	e      api.Errno
	result api.Value
}

// integer, pair and array tell what a value is, as the document defines it.
func integer(v api.Value) bool { return v.Kind == 1 && v.B == 0 }
func pair(v api.Value) bool {
	return v.Kind == 2 && max(v.A, v.B) <= mostPart && min(v.A, v.B) >= -mostPart
}
func array(v api.Value) bool    { return v.Kind == 3 && v.A >= 0 && v.B == 0 }
func internal(v api.Value) bool { return integer(v) || pair(v) || array(v) }

// among tells whether a list has that index.
func among[T any](l []T, k int) bool { return k >= 0 && k < len(l) }

// expect returns what the machine is to answer.
func (q question) expect() (a answer) {
	s := &model{m: q.m, limit: q.limit, globals: slices.Clone(q.globals), arrays: [][]int64{nil}}
	if !q.possible() || !s.begin(q.method, q.args) {
		return answer{e: badArg}
	}
	defer func() {
		end := recover().(stop)
		a = answer{s.globals, api.Outcome{Trap: end.trap, Result: end.result}, s.used, 0}
		if end.trap != 0 {
			a.after = q.globals
		}
		if end.e != 0 {
			a = answer{e: end.e}
		}
	}()
	for {
		s.step()
	}
}

// possible tells whether limits, arguments and globals may be passed.
func (q question) possible() bool {
	if min(q.limit.Fuel, q.limit.Stack, q.limit.Heap) < 0 || q.limit.Fuel > mostFuel || q.limit.Stack > mostStack || q.limit.Heap > mostHeap {
		return false
	}
	if len(q.globals) != len(q.m.Globals) {
		return false
	}
	for k, v := range slices.Concat(q.globals, q.args) {
		if !integer(v) && !pair(v) || k < len(q.globals) && v.Kind != q.m.Globals[k].Kind {
			return false
		}
	}
	return true
}

// begin puts a frame on top, if there is one of the method with these arguments.
func (s *model) begin(k int, args []api.Value) bool {
	if !among(s.m.Methods, k) {
		return false
	}
	x := s.m.Methods[k]
	if len(args) != len(x.Args) || len(x.Args)+len(x.Locals) > mostLocals {
		return false
	}
	l := &level{x: x, left: map[int]int{}}
	for i, kind := range slices.Concat(x.Args, x.Locals) {
		v := api.Value{Kind: kind}
		if i < len(args) {
			v = args[i]
		}
		if kind < 1 || kind > 3 || v.Kind != kind {
			return false
		}
		l.locals = append(l.locals, v)
	}
	s.levels = append(s.levels, l)
	return true
}

// top returns the frame that executes.
func (s *model) top() *level { return s.levels[len(s.levels)-1] }

// must ends the run with ErrOp unless something is so.
func must(is bool) {
	if !is {
		panic(stop{e: badOp})
	}
}

// trap ends the run with a trap if something is so.
func trap(number int, is bool) {
	if is {
		panic(stop{trap: number})
	}
}

// size returns the sum of the sizes of all frames.
func (s *model) size() int {
	n := 0
	for _, l := range s.levels {
		n += len(l.locals) + len(l.stack)
	}
	return n
}

// step makes the checks in their order.
func (s *model) step() {
	size := s.size()
	if size > s.limit.Stack {
		panic(stop{e: badStack})
	}
	if s.used.Fuel == s.limit.Fuel {
		panic(stop{e: badFuel})
	}
	s.used.Fuel++
	s.used.Stack = max(s.used.Stack, size)
	l := s.top()
	must(among(l.x.Code, l.at))
	i := l.x.Code[l.at]
	must(i.Op < opcodes)
	l.at++
	s.effect(l, op.Name(i.Op), i.A)
}

// takes are the kinds that an instruction takes whatever the code around it, the top last; o is any.
var takes = map[string]string{
	"set": "o", "store": "o", "pop": "o", "dup": "o", "swap": "oo", "add": "nn", "sub": "nn", "mul": "nn", "div": "nn", "rem": "nn", "less": "nn", "same": "nn",
	"pair": "nn", "re": "p", "im": "p", "padd": "pp", "pmul": "pp", "conj": "p", "new": "n", "at": "rn", "put": "rnn", "len": "r", "zero": "n",
}

// take takes values of these kinds off the stack, and returns them in the order in which they stood there.
func (l *level) take(kinds []uint8) []api.Value {
	rest := len(l.stack) - len(kinds)
	must(rest >= 0)
	taken := l.stack[rest:]
	for k, kind := range kinds {
		must(kind == 0 || kind == taken[k].Kind)
	}
	l.stack = slices.Clone(l.stack[:rest])
	return taken
}

// push puts a value on the stack.
func (l *level) push(v api.Value) {
	must(internal(v) && len(l.locals)+len(l.stack) < mostStack)
	l.stack = append(l.stack, v)
}

// n returns the integer x.
func n(x int64) api.Value { return api.Value{Kind: 1, A: x} }

// p returns the pair of a and b.
func p(a, b int64) api.Value { return api.Value{Kind: 2, A: a, B: b} }

// ref returns the array with that number.
func ref(x int64) api.Value { return api.Value{Kind: 3, A: x} }

// truth returns 1 or 0.
func truth(is bool) int64 {
	if is {
		return 1
	}
	return 0
}

// wrap returns what 64 bits hold of x.
func wrap(x *big.Int) int64 {
	word := new(big.Int).Lsh(big.NewInt(1), 64)
	low := new(big.Int).Mod(x, word)
	if low.Bit(63) == 1 {
		low.Sub(low, word)
	}
	return low.Int64()
}

// reckon returns what becomes of two integers.
func reckon(name string, a, b int64) int64 {
	x, y, z := big.NewInt(a), big.NewInt(b), new(big.Int)
	switch name {
	case "add":
		return wrap(z.Add(x, y))
	case "sub":
		return wrap(z.Sub(x, y))
	case "mul":
		return wrap(z.Mul(x, y))
	case "less":
		return truth(x.Cmp(y) < 0)
	case "same":
		return truth(x.Cmp(y) == 0)
	}
	trap(byZero, b == 0)
	if name == "div" {
		return wrap(z.Quo(x, y))
	}
	return wrap(z.Rem(x, y))
}

// effect has the effect of an instruction.
func (s *model) effect(l *level, name string, a int) {
	v := l.take(sample.Kinds(takes[name]))
	switch name {
	case "const":
		must(among(s.m.Pool, a))
		l.push(s.m.Pool[a])
	case "get":
		must(among(l.locals, a))
		l.push(l.locals[a])
	case "set":
		must(among(l.locals, a) && l.locals[a].Kind == v[0].Kind)
		l.locals[a] = v[0]
	case "load":
		must(among(s.globals, a))
		l.push(s.globals[a])
	case "store":
		must(among(s.globals, a) && s.globals[a].Kind == v[0].Kind)
		s.globals[a] = v[0]
	case "dup":
		l.push(v[0])
		l.push(v[0])
	case "swap":
		l.push(v[1])
		l.push(v[0])
	case "add", "sub", "mul", "div", "rem", "less", "same":
		l.push(n(reckon(name, v[0].A, v[1].A)))
	case "re":
		l.push(n(v[0].A))
	case "im":
		l.push(n(v[0].B))
	case "pair", "padd", "pmul", "conj":
		made := couple(name, v)
		trap(beyond, !pair(made))
		l.push(made)
	case "new", "at", "put", "len":
		s.words(l, name, a, v)
	default:
		s.control(l, name, a, v)
	}
}

// couple returns the pair that is made of these values.
func couple(name string, v []api.Value) api.Value {
	switch x := v[0]; name {
	case "pair":
		return p(x.A, v[1].A)
	case "padd":
		return p(x.A+v[1].A, x.B+v[1].B)
	case "pmul":
		return p(x.A*v[1].A-x.B*v[1].B, x.A*v[1].B+x.B*v[1].A)
	default:
		return p(x.A, -x.B)
	}
}

// words has the effect of an instruction on arrays.
func (s *model) words(l *level, name string, a int, v []api.Value) {
	if name == "new" {
		many := v[0].A
		trap(noPlace, many < 0 || many > int64(a))
		if many > int64(s.limit.Heap-s.used.Heap) {
			panic(stop{e: badFull})
		}
		s.used.Heap += int(many)
		s.arrays = append(s.arrays, make([]int64, many))
		l.push(ref(int64(len(s.arrays) - 1)))
		return
	}
	exists := v[0].A < int64(len(s.arrays))
	trap(noPlace, !exists)
	words := s.arrays[v[0].A]
	if name == "len" {
		l.push(n(int64(len(words))))
		return
	}
	at := v[1].A
	trap(noPlace, at < 0 || at >= int64(len(words)))
	if name == "at" {
		l.push(n(words[at]))
		return
	}
	words[at] = v[2].A
}

// control has the effect of an instruction that leads elsewhere, or may.
func (s *model) control(l *level, name string, a int, v []api.Value) {
	switch name {
	case "jump":
		l.at = a
	case "zero":
		if v[0].A == 0 {
			l.at = a
		}
	case "loop":
		l.left[l.at-1] = a
	case "again":
		must(l.left[a] > 0)
		l.left[a]--
		if l.left[a] > 0 {
			l.at = a + 1
		}
	case "call":
		must(among(s.m.Methods, a) && len(s.levels) <= mostStack)
		must(s.begin(a, l.take(s.m.Methods[a].Args)))
	case "ret":
		must(l.x.Result == 1 || l.x.Result == 2)
		result := l.take([]uint8{l.x.Result})[0]
		s.levels = s.levels[:len(s.levels)-1]
		if len(s.levels) == 0 {
			panic(stop{result: result})
		}
		s.top().push(result)
	case "trap":
		trap(own+a, own+a != 0)
	}
}
