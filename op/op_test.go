package op_test

import (
	"bytes"
	"math"
	"slices"
	"strings"
	"testing"

	"capstan/api"
	"capstan/op"
)

// Kinds, as the rows below write them.
const (
	anyKind = "\x00"
	n       = "\x01" // an integer
	p       = "\x02" // a pair
	r       = "\x03" // an array
)

const open = "open" // stands as what an open opcode takes

// row is what the chapter says of an opcode.
type row struct {
	name         string
	op           uint8
	least, most  int
	takes, gives string // kinds, the top last
	leads, goes  bool
}

// rows returns what the chapter says of each opcode, in the order of their numbers, which begin at 0.
func rows() []row {
	return []row{
		{"nop", api.OpNop, 0, 0, "", "", false, true},
		{"const", api.OpConst, 0, 31, open, "", false, true},
		{"get", api.OpGet, 0, 15, open, "", false, true},
		{"set", api.OpSet, 0, 15, open, "", false, true},
		{"load", api.OpLoad, 0, 3, open, "", false, true},
		{"store", api.OpStore, 0, 3, open, "", false, true},
		{"pop", api.OpPop, 0, 0, anyKind, "", false, true},
		{"dup", api.OpDup, 0, 0, open, "", false, true},
		{"swap", api.OpSwap, 0, 0, open, "", false, true},
		{"add", api.OpAdd, 0, 0, n + n, n, false, true},
		{"sub", api.OpSub, 0, 0, n + n, n, false, true},
		{"mul", api.OpMul, 0, 0, n + n, n, false, true},
		{"div", api.OpDiv, 0, 0, n + n, n, false, true},
		{"rem", api.OpRem, 0, 0, n + n, n, false, true},
		{"less", api.OpLess, 0, 0, n + n, n, false, true},
		{"same", api.OpSame, 0, 0, n + n, n, false, true},
		{"pair", api.OpPair, 0, 0, n + n, p, false, true},
		{"re", api.OpRe, 0, 0, p, n, false, true},
		{"im", api.OpIm, 0, 0, p, n, false, true},
		{"padd", api.OpPadd, 0, 0, p + p, p, false, true},
		{"pmul", api.OpPmul, 0, 0, p + p, p, false, true},
		{"conj", api.OpConj, 0, 0, p, p, false, true},
		{"new", api.OpNew, 0, 1024, n, r, false, true},
		{"at", api.OpAt, 0, 0, r + n, n, false, true},
		{"put", api.OpPut, 0, 0, r + n + n, "", false, true},
		{"len", api.OpLen, 0, 0, r, n, false, true},
		{"jump", api.OpJump, 0, 199, "", "", true, false},
		{"zero", api.OpZero, 0, 199, n, "", true, true},
		{"loop", api.OpLoop, 1, 100, "", "", false, true},
		{"again", api.OpAgain, 0, 199, "", "", true, true},
		{"call", api.OpCall, 0, 15, open, "", false, true},
		{"ret", api.OpRet, 0, 0, open, "", false, false},
		{"trap", api.OpTrap, 0, 255, "", "", false, false},
	}
}

// strangers returns the numbers that are no opcode.
func strangers() []uint8 {
	var l []uint8
	for k := len(rows()); k < 256; k++ {
		l = append(l, uint8(k))
	}
	return l
}

// named returns by the rows the opcode of that name.
func named(name string) (uint8, bool) {
	for _, x := range rows() {
		if x.name == name {
			return x.op, true
		}
	}
	return 0, false
}

// The rows are those of all opcodes: what is tested with them is tested with each.
func TestRows(t *testing.T) {
	if len(rows()) != int(api.OpCount) || api.OpCount != 33 {
		t.Fatalf("%d rows, %d opcodes", len(rows()), api.OpCount)
	}
	for i, x := range rows() {
		if int(x.op) != i {
			t.Errorf("%s stands at %d and is %d", x.name, i, x.op)
		}
	}
	if l := strangers(); l[0] != api.OpCount || l[len(l)-1] != 255 {
		t.Errorf("%v", l)
	}
}

// P4.1: each opcode is known and has its name; no other number is or has one, neither the first behind the last opcode nor 255.
func TestKnownName(t *testing.T) {
	for _, x := range rows() {
		if !op.Known(x.op) {
			t.Errorf("Known(%d) = false", x.op)
		}
		if name := op.Name(x.op); name != x.name {
			t.Errorf("Name(%d) = %q, not %q", x.op, name, x.name)
		}
	}
	for _, k := range strangers() {
		if op.Known(k) {
			t.Errorf("Known(%d) = true", k)
		}
		if name := op.Name(k); name != "" {
			t.Errorf("Name(%d) = %q", k, name)
		}
	}
}

// P4.1: each name.
func TestParse(t *testing.T) {
	for _, x := range rows() {
		if k, is := op.Parse(x.name); k != x.op || !is {
			t.Errorf("Parse(%q) = %d, %v", x.name, k, is)
		}
	}
}

// P4.1: texts that are no name.
func TestParseWrong(t *testing.T) {
	for _, s := range []string{
		"", " ", "\x00", "\n", "0", "1", "9", "32", "33", "-1",
		"count", "none", "OpNop", "opnop", "opadd", "Op", "op",
		"padd2", "adds", "constant", "ne", "neq", "ad", "ju", "repeat",
		"nop nop", "nop,add", "nopadd", "add\x00", "\x00add", "add\n", "\tadd", "add ", " add",
		"äd", "nöp", "\xff", "nop\xff", "ｎｏｐ", "nop\u0301",
		strings.Repeat("nop", 1000), strings.Repeat("a", 1<<16),
	} {
		if k, is := op.Parse(s); k != 0 || is {
			t.Errorf("Parse(%.20q) = %d, %v", s, k, is)
		}
	}
}

// spoilt returns a name in upper case, and with a letter more, less or other, wherever it stands.
func spoilt(name string) []string {
	l := []string{strings.ToUpper(name), strings.ToUpper(name[:1]) + name[1:], name + name}
	for i := range len(name) + 1 {
		for _, c := range "abeglnoprstx _\x00" {
			l = append(l, name[:i]+string(c)+name[i:])
			if i < len(name) {
				l = append(l, name[:i]+string(c)+name[i+1:])
			}
		}
		if i < len(name) {
			l = append(l, name[:i]+name[i+1:], name[:i], name[i:])
		}
	}
	return l
}

// P4.1: what is near a name is none, unless it is another one.
func TestParseNear(t *testing.T) {
	for _, x := range rows() {
		for _, s := range spoilt(x.name) {
			want, wanted := named(s)
			if k, is := op.Parse(s); k != want || is != wanted {
				t.Errorf("Parse(%q) = %d, %v", s, k, is)
			}
		}
	}
}

// P4.2: each opcode's least and greatest A; 0 and -1 where there is no such opcode.
func TestBounds(t *testing.T) {
	for _, x := range rows() {
		if least, most := op.Bounds(x.op); least != x.least || most != x.most {
			t.Errorf("%s: Bounds = %d, %d, not %d, %d", x.name, least, most, x.least, x.most)
		}
	}
	for _, k := range strangers() {
		if least, most := op.Bounds(k); least != 0 || most != -1 {
			t.Errorf("Bounds(%d) = %d, %d", k, least, most)
		}
	}
}

// operands returns integers about the edges of all ranges, and such as would be within one if they were cut to fewer bits.
func operands() []int {
	l := []int{math.MinInt, math.MinInt + 1, math.MinInt32, -1 << 32, -1 << 16, -256, -200, -3, -2, -1}
	for _, k := range []int{0, 4, 16, 32, 100, 200, 256, 1024} {
		l = append(l, k-1, k, k+1)
	}
	return append(l, 1025, 1<<16, 1<<31, 1<<32, 1<<32+1, 1<<32+5, math.MaxInt-1, math.MaxInt)
}

// P4.2: an instruction is valid from its opcode's least A to its greatest one, and with B 0.
func TestMay(t *testing.T) {
	for _, x := range rows() {
		for _, a := range append(operands(), x.least-1, x.least, x.most, x.most+1) {
			want := x.least <= a && a <= x.most
			if may := op.May(api.Instr{Op: x.op, A: a}); may != want {
				t.Errorf("%s %d: May = %v", x.name, a, may)
			}
		}
	}
}

// P4.2: each A from the least to the greatest one.
func TestMayAll(t *testing.T) {
	for _, x := range rows() {
		for a := x.least; a <= x.most; a++ {
			if !op.May(api.Instr{Op: x.op, A: a}) {
				t.Errorf("%s %d: May = false", x.name, a)
			}
		}
	}
}

// P4.2: B is 0, whatever the opcode and A.
func TestMayB(t *testing.T) {
	for _, x := range rows() {
		for _, a := range []int{x.least, x.most} {
			for _, b := range operands() {
				if may := op.May(api.Instr{Op: x.op, A: a, B: b}); may != (b == 0) {
					t.Errorf("%s %d, B %d: May = %v", x.name, a, b, may)
				}
			}
		}
		if op.May(api.Instr{Op: x.op, A: x.least - 1, B: 1}) {
			t.Errorf("%s %d, B 1: May = true", x.name, x.least-1)
		}
	}
}

// P4.2: no instruction is valid without an opcode.
func TestMayStrangers(t *testing.T) {
	for _, k := range strangers() {
		for _, a := range operands() {
			if op.May(api.Instr{Op: k, A: a}) {
				t.Errorf("opcode %d, A %d: May = true", k, a)
			}
		}
		if op.May(api.Instr{Op: k, B: 1}) {
			t.Errorf("opcode %d, B 1: May = true", k)
		}
	}
}

// P4.3: the shape of each opcode that has a fixed one.
func TestOf(t *testing.T) {
	for _, x := range rows() {
		if x.takes == open {
			continue
		}
		s, is := op.Of(x.op)
		if !is || string(s.Takes) != x.takes || string(s.Gives) != x.gives {
			t.Errorf("Of %s = %v, %v", x.name, s, is)
		}
	}
}

// P4.3: open opcodes, and numbers that are no opcode, have no shape.
func TestOfNone(t *testing.T) {
	l := strangers()
	for _, x := range rows() {
		if x.takes == open {
			l = append(l, x.op)
		}
	}
	for _, k := range l {
		if s, is := op.Of(k); is || len(s.Takes) != 0 || len(s.Gives) != 0 {
			t.Errorf("Of(%d) = %v, %v", k, s, is)
		}
	}
	for _, k := range []uint8{api.OpConst, api.OpGet, api.OpSet, api.OpLoad, api.OpStore, api.OpDup, api.OpSwap, api.OpCall, api.OpRet} {
		if !slices.Contains(l, k) {
			t.Errorf("%d is not among the open ones", k)
		}
	}
}

// Rules: what Of returns belongs to the caller: neither list shares memory with the other one or with another answer.
func TestOfOtherMemory(t *testing.T) {
	for _, x := range rows() {
		if x.takes == open {
			continue
		}
		s, _ := op.Of(x.op)
		takes := append(s.Takes, 77, 77, 77)
		for i := range takes {
			takes[i] = 99
		}
		if string(s.Gives) != x.gives {
			t.Errorf("%s: what it gives follows what it takes: %v", x.name, s.Gives)
		}
		gives := append(s.Gives, 88, 88)
		for i := range gives {
			gives[i] = 98
		}
		if !bytes.Equal(takes, bytes.Repeat([]byte{99}, len(takes))) {
			t.Errorf("%s: what it takes follows what it gives: %v", x.name, takes)
		}
		if again, is := op.Of(x.op); !is || string(again.Takes) != x.takes || string(again.Gives) != x.gives {
			t.Errorf("%s: the next answer follows the first: %v", x.name, again)
		}
	}
}

// P4.4: each opcode, and numbers that are none.
func TestLeadsGoes(t *testing.T) {
	for _, x := range rows() {
		if leads := op.Leads(x.op); leads != x.leads {
			t.Errorf("%s: Leads = %v", x.name, leads)
		}
		if goes := op.Goes(x.op); goes != x.goes {
			t.Errorf("%s: Goes = %v", x.name, goes)
		}
	}
	for _, k := range strangers() {
		if op.Leads(k) || op.Goes(k) {
			t.Errorf("%d: Leads = %v, Goes = %v", k, op.Leads(k), op.Goes(k))
		}
	}
}

// P4.5: no name is that of two opcodes, and each parses as its own.
func TestNamesAreDistinct(t *testing.T) {
	owner := map[string]int{}
	for k := range 256 {
		name := op.Name(uint8(k))
		if name == "" {
			continue
		}
		if other, is := owner[name]; is {
			t.Errorf("%d and %d are both named %q", other, k, name)
		}
		owner[name] = k
		if back, is := op.Parse(name); int(back) != k || !is {
			t.Errorf("%q, the name of %d, parses as %d, %v", name, k, back, is)
		}
	}
	if len(owner) != int(api.OpCount) {
		t.Errorf("%d names", len(owner))
	}
}

// P4.6: three kinds at most are taken, one at most is left, and each is a kind or any kind.
func TestShapesAreSmall(t *testing.T) {
	fixed := 0
	for k := range 256 {
		s, is := op.Of(uint8(k))
		if is {
			fixed++
		}
		if len(s.Takes) > 3 || len(s.Gives) > 1 {
			t.Errorf("%d: %v", k, s)
		}
		for _, kind := range slices.Concat(s.Takes, s.Gives) {
			if kind > api.KdRef {
				t.Errorf("%d: %v", k, s)
			}
		}
	}
	if fixed != 24 {
		t.Errorf("%d fixed shapes", fixed)
	}
}
