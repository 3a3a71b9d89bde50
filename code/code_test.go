package code_test

import (
	"bytes"
	"math"
	"slices"
	"strconv"
	"strings"
	"testing"

	"capstan/api"
	"capstan/code"
)

// row is what the chapters say of an opcode: its name, and the range of its operand, which it has unless the range is just 0.
type row struct {
	op          uint8
	name        string
	least, most int
}

// operand tells whether the opcode has one.
func (x row) operand() bool { return x.most > 0 }

// rows returns the rows of all opcodes, in the order of their numbers, which begin at 0.
func rows() []row {
	return []row{
		{0, "nop", 0, 0}, {1, "const", 0, 31}, {2, "get", 0, 15}, {3, "set", 0, 15}, {4, "load", 0, 3}, {5, "store", 0, 3},
		{6, "pop", 0, 0}, {7, "dup", 0, 0}, {8, "swap", 0, 0},
		{9, "add", 0, 0}, {10, "sub", 0, 0}, {11, "mul", 0, 0}, {12, "div", 0, 0}, {13, "rem", 0, 0}, {14, "less", 0, 0}, {15, "same", 0, 0},
		{16, "pair", 0, 0}, {17, "re", 0, 0}, {18, "im", 0, 0}, {19, "padd", 0, 0}, {20, "pmul", 0, 0}, {21, "conj", 0, 0},
		{22, "new", 0, 1024}, {23, "at", 0, 0}, {24, "put", 0, 0}, {25, "len", 0, 0},
		{26, "jump", 0, 199}, {27, "zero", 0, 199}, {28, "loop", 1, 100}, {29, "again", 0, 199},
		{30, "call", 0, 15}, {31, "ret", 0, 0}, {32, "trap", 0, 255},
	}
}

// valid returns all valid instructions, of which there are about two thousand.
func valid() []api.Instr {
	var l []api.Instr
	for _, x := range rows() {
		for a := x.least; a <= x.most; a++ {
			l = append(l, api.Instr{Op: x.op, A: a})
		}
	}
	return l
}

// invalid returns instructions that are not valid: other opcodes, operands beyond either end, and a B.
func invalid() []api.Instr {
	var l []api.Instr
	for _, x := range rows() {
		for _, a := range []int{x.least - 1, x.most + 1, -1, -x.most - 1, x.most + 256, 1 << 16, x.most + 1<<16, x.most + 1<<32, math.MinInt, math.MaxInt} {
			l = append(l, api.Instr{Op: x.op, A: a})
		}
		for _, b := range []int{1, -1, 256, 1 << 16, 1 << 32, math.MinInt, math.MaxInt} {
			l = append(l, api.Instr{Op: x.op, A: x.least, B: b}, api.Instr{Op: x.op, A: x.most, B: b})
		}
	}
	for k := len(rows()); k < 256; k++ {
		l = append(l, api.Instr{Op: uint8(k)}, api.Instr{Op: uint8(k), A: 1})
	}
	return l
}

// encoded returns by the chapter's own words the encoding of an instruction.
func encoded(i api.Instr) []byte {
	if rows()[i.Op].operand() {
		return []byte{i.Op, byte(i.A % 256), byte(i.A / 256)}
	}
	return []byte{i.Op}
}

// allEncoded returns by the chapter's own words the encoding of code.
func allEncoded(l []api.Instr) []byte {
	b := []byte{byte(len(l))}
	for _, i := range l {
		b = append(b, encoded(i)...)
	}
	return b
}

// written returns by the chapter's own words the line of an instruction.
func written(i api.Instr) string {
	x := rows()[i.Op]
	if x.operand() {
		return x.name + " " + strconv.Itoa(i.A) + "\n"
	}
	return x.name + "\n"
}

// allWritten returns by the chapter's own words the text of code.
func allWritten(l []api.Instr) string {
	s := ""
	for _, i := range l {
		s += written(i)
	}
	return s
}

// meanings returns what each line stands for.
func meanings() map[string]api.Instr {
	m := map[string]api.Instr{}
	for _, i := range valid() {
		m[written(i)] = i
	}
	return m
}

// meaning returns the code whose text is s, with nothing known of texts but their lines, and whether there is one.
func meaning(lines map[string]api.Instr, s string) ([]api.Instr, bool) {
	var l []api.Instr
	for _, x := range strings.SplitAfter(s, "\n") {
		if x == "" {
			break // what stands behind the last end
		}
		i, is := lines[x]
		if !is {
			return nil, false
		}
		l = append(l, i)
	}
	return l, 1 <= len(l) && len(l) <= 200
}

// repeated returns n times the instruction.
func repeated(i api.Instr, n int) []api.Instr { return slices.Repeat([]api.Instr{i}, n) }

// codes returns code of each length, in which each valid instruction stands somewhere.
func codes() [][]api.Instr {
	all := valid()
	var l [][]api.Instr
	at := 0
	for n := 1; n <= 200; n++ {
		one := make([]api.Instr, n)
		for k := range one {
			one[k] = all[at%len(all)]
			at += 37 // prime to the number of valid instructions, so that all have their turn
		}
		l = append(l, one)
	}
	return append(l, repeated(api.Instr{}, 200), repeated(api.Instr{Op: 32, A: 255}, 200), repeated(api.Instr{Op: 22, A: 1024}, 200))
}

// noCodes returns sequences that are not code: of too few or too many instructions, or with one that is not valid at either end or between.
func noCodes() [][]api.Instr {
	ret := api.Instr{Op: api.OpRet}
	l := [][]api.Instr{nil, {}, repeated(ret, 201), repeated(ret, 202), repeated(ret, 255), repeated(ret, 256), repeated(ret, 257), repeated(ret, 456)}
	for _, i := range invalid() {
		l = append(l, []api.Instr{i}, []api.Instr{i, ret}, []api.Instr{ret, i}, []api.Instr{ret, i, ret})
	}
	full := repeated(ret, 200)
	full[199].B = 1
	return append(l, full)
}

// The rows are those of all opcodes, and agree with api.
func TestRows(t *testing.T) {
	if len(rows()) != int(api.OpCount) {
		t.Errorf("%d rows, %d opcodes", len(rows()), api.OpCount)
	}
	for k, x := range rows() {
		if int(x.op) != k {
			t.Errorf("%s stands at %d", x.name, k)
		}
	}
	if n := len(valid()); n%37 == 0 || n != len(meanings()) {
		t.Errorf("%d valid instructions, %d lines", n, len(meanings()))
	}
	seen := map[api.Instr]int{}
	for _, l := range codes() {
		for _, i := range l {
			seen[i]++
		}
	}
	if len(seen) != len(valid()) {
		t.Errorf("%d of %d valid instructions stand in code", len(seen), len(valid()))
	}
}

// P5.1: code of each length and with each valid instruction.
func TestMay(t *testing.T) {
	for _, l := range codes() {
		if !code.May(l) {
			t.Errorf("May = false of %d instructions", len(l))
		}
	}
	for _, i := range valid() {
		if !code.May([]api.Instr{i}) {
			t.Errorf("May = false of %v", i)
		}
	}
}

// P5.1: what is not code.
func TestMayNot(t *testing.T) {
	for _, l := range noCodes() {
		if code.May(l) {
			t.Errorf("May = true of %d instructions: %v", len(l), l)
		}
	}
}

// P5.1: sequences are the same if they have the same length and, in each place, the same instruction, whether they are code or not.
func TestSame(t *testing.T) {
	for i, x := range []struct {
		a, b []api.Instr
		same bool
	}{
		{nil, nil, true},
		{nil, []api.Instr{}, true},
		{[]api.Instr{}, nil, true},
		{nil, []api.Instr{{}}, false},
		{[]api.Instr{{}}, nil, false},
		{[]api.Instr{{}}, []api.Instr{{}}, true},
		{[]api.Instr{{}}, []api.Instr{{}, {}}, false},
		{[]api.Instr{{}, {}}, []api.Instr{{}}, false},
		{[]api.Instr{{Op: 1, A: 3}, {Op: 31}}, []api.Instr{{Op: 1, A: 3}, {Op: 31}}, true},
		{[]api.Instr{{Op: 1, A: 3}, {Op: 31}}, []api.Instr{{Op: 31}, {Op: 1, A: 3}}, false},
		{[]api.Instr{{Op: 1, A: 3}, {Op: 31}}, []api.Instr{{Op: 1, A: 4}, {Op: 31}}, false},
		{[]api.Instr{{Op: 2, A: 3}, {Op: 31}}, []api.Instr{{Op: 3, A: 3}, {Op: 31}}, false},
		{[]api.Instr{{Op: 31, B: 1}}, []api.Instr{{Op: 31}}, false},
		{[]api.Instr{{Op: 31}}, []api.Instr{{Op: 31, A: 1}}, false},
		{[]api.Instr{{Op: 31, A: 1, B: -1}}, []api.Instr{{Op: 31, A: 1, B: -1}}, true},
		{[]api.Instr{{Op: 200, A: -7, B: 9}}, []api.Instr{{Op: 200, A: -7, B: 9}}, true},
		{[]api.Instr{{Op: 200}}, []api.Instr{{Op: 201}}, false},
		{[]api.Instr{{A: 1 << 32}}, []api.Instr{{}}, false},
		{[]api.Instr{{A: 2, B: 1}}, []api.Instr{{A: 1, B: 2}}, false},
		{make([]api.Instr, 300), make([]api.Instr, 300), true},
		{make([]api.Instr, 300), make([]api.Instr, 301), false},
		{make([]api.Instr, 256), nil, false},
	} {
		if same := code.Same(x.a, x.b); same != x.same {
			t.Errorf("%d: Same(%v, %v) = %v", i, x.a, x.b, same)
		}
	}
}

// P5.1: a difference shows in whatever place and field it is.
func TestSameEverywhere(t *testing.T) {
	for _, l := range codes() {
		if !code.Same(l, slices.Clone(l)) {
			t.Errorf("%d instructions differ from themselves", len(l))
		}
		if code.Same(l, l[:len(l)-1]) || code.Same(l[1:], l) {
			t.Errorf("%d instructions are the same as one less", len(l))
		}
		for k := range l {
			for _, d := range []api.Instr{{Op: 1}, {A: 1}, {B: 1}} {
				other := slices.Clone(l)
				other[k] = api.Instr{Op: l[k].Op + d.Op, A: l[k].A + d.A, B: l[k].B + d.B}
				if code.Same(l, other) || code.Same(other, l) {
					t.Fatalf("Same = true of %v and %v", l, other)
				}
			}
		}
	}
}

// P5.2: the chapter's example, and each valid instruction alone.
func TestBytesText(t *testing.T) {
	l := []api.Instr{{Op: api.OpConst, A: 3}, {Op: api.OpRet}}
	if b, e := code.Bytes(l); !bytes.Equal(b, []byte{2, 1, 3, 0, 31}) || e != 0 {
		t.Errorf("Bytes = %v, %d", b, e)
	}
	if s, e := code.Text(l); s != "const 3\nret\n" || e != 0 {
		t.Errorf("Text = %q, %d", s, e)
	}
	for _, i := range valid() {
		if b, e := code.Bytes([]api.Instr{i}); !bytes.Equal(b, append([]byte{1}, encoded(i)...)) || e != 0 {
			t.Errorf("Bytes of %v = %v, %d", i, b, e)
		}
		if s, e := code.Text([]api.Instr{i}); s != written(i) || e != 0 {
			t.Errorf("Text of %v = %q, %d", i, s, e)
		}
	}
}

// P5.2: code of each length.
func TestBytesTextLong(t *testing.T) {
	for _, l := range codes() {
		if b, e := code.Bytes(l); !bytes.Equal(b, allEncoded(l)) || e != 0 {
			t.Errorf("Bytes of %d instructions = %v, %d", len(l), b, e)
		}
		if s, e := code.Text(l); s != allWritten(l) || e != 0 {
			t.Errorf("Text of %d instructions = %q, %d", len(l), s, e)
		}
	}
}

// P5.2: what is not code has neither encoding nor text.
func TestBytesTextWrong(t *testing.T) {
	for _, l := range noCodes() {
		if b, e := code.Bytes(l); len(b) != 0 || e != api.ErrOp {
			t.Errorf("Bytes of %d instructions, %v = %v, %d", len(l), l, b, e)
		}
		if s, e := code.Text(l); s != "" || e != api.ErrOp {
			t.Errorf("Text of %d instructions, %v = %q, %d", len(l), l, s, e)
		}
	}
}

// reading is a call of Read, and what it is to return.
type reading struct {
	b    []byte
	at   int
	l    []api.Instr
	next int
	e    api.Errno
}

func compare(t *testing.T, l ...reading) {
	t.Helper()
	for i, x := range l {
		if m, next, e := code.Read(x.b, x.at); !slices.Equal(m, x.l) || next != x.next || e != x.e {
			t.Errorf("%d: Read(%v, %d) = %v, %d, %d", i, x.b, x.at, m, next, e)
		}
	}
}

// refused compares a Read of each of these, from offset at on, with an error and nothing beside it.
func refused(t *testing.T, e api.Errno, at int, l ...[]byte) {
	t.Helper()
	for _, b := range l {
		compare(t, reading{b, at, nil, 0, e})
	}
}

// P5.3: ordinary encodings, alone and among other bytes.
func TestRead(t *testing.T) {
	ret := []api.Instr{{Op: api.OpRet}}
	compare(t, []reading{
		{[]byte{2, 1, 3, 0, 31}, 0, []api.Instr{{Op: api.OpConst, A: 3}, {Op: api.OpRet}}, 5, 0},
		{[]byte{1, 31}, 0, ret, 2, 0},
		{[]byte{1, 31, 31, 31}, 0, ret, 2, 0},
		{[]byte{1, 31, 255}, 0, ret, 2, 0},
		{[]byte{0, 255, 1, 31, 0}, 2, ret, 4, 0},
		{[]byte{1, 1, 31}, 1, ret, 3, 0},
		{[]byte{1, 22, 0, 4}, 0, []api.Instr{{Op: api.OpNew, A: 1024}}, 4, 0},
		{[]byte{1, 28, 100, 0}, 0, []api.Instr{{Op: api.OpLoop, A: 100}}, 4, 0},
		{[]byte{1, 32, 255, 0}, 0, []api.Instr{{Op: api.OpTrap, A: 255}}, 4, 0},
		{[]byte{3, 0, 0, 0}, 0, make([]api.Instr, 3), 4, 0},
	}...)
	compare(t, reading{append([]byte{200}, make([]byte, 200)...), 0, make([]api.Instr, 200), 201, 0})
	compare(t, reading{append([]byte{200}, make([]byte, 300)...), 0, make([]api.Instr, 200), 201, 0})
}

// P5.3: offsets below 0, at the end and beyond it.
func TestReadOffset(t *testing.T) {
	for _, b := range [][]byte{nil, {}, {0}, {1, 31}, {2, 1, 3, 0, 31}, make([]byte, 300)} {
		for _, at := range []int{-1, -2, -256, -1 << 32, math.MinInt, math.MinInt + 1, len(b) + 1, len(b) + 2, len(b) + 256, len(b) + 1<<32, math.MaxInt - 1, math.MaxInt} {
			refused(t, api.ErrArg, at, b)
		}
		refused(t, api.ErrShort, len(b), b)
	}
}

// P5.3: counts from 1 to 200 are followed by instructions; 0 and what is above is refused at once, whether anything follows or not.
func TestReadCount(t *testing.T) {
	for count := range 256 {
		alone := []byte{byte(count)}
		if count == 0 || count > 200 {
			refused(t, api.ErrOp, 0, alone, []byte{byte(count), 31}, []byte{byte(count), 255}, []byte{byte(count), 1}, append(alone, make([]byte, 300)...))
			continue
		}
		nops := append(alone, make([]byte, count)...)
		compare(t, reading{nops, 0, make([]api.Instr, count), count + 1, 0})
		refused(t, api.ErrShort, 0, nops[:count], alone)
	}
}

// P5.3: bytes that are no opcode are refused at once, wherever they stand.
func TestReadOpcode(t *testing.T) {
	for k := 33; k < 256; k++ {
		x := byte(k)
		refused(t, api.ErrOp, 0, []byte{1, x}, []byte{1, x, 0}, []byte{1, x, 0, 0}, []byte{1, x, 0, 0, 0}, []byte{2, x}, []byte{200, x}, []byte{2, 31, x}, []byte{3, 1, 3, 0, x}, []byte{3, 1, 3, 0, x, 31})
	}
}

// P5.3: each operand from 0 to 65535 of each opcode that has one.
func TestReadOperand(t *testing.T) {
	for _, x := range rows() {
		if !x.operand() {
			continue
		}
		for a := range 1 << 16 {
			b := []byte{1, x.op, byte(a), byte(a >> 8)}
			want := reading{b, 0, nil, 0, api.ErrOp}
			if x.least <= a && a <= x.most {
				want = reading{b, 0, []api.Instr{{Op: x.op, A: a}}, 4, 0}
			}
			compare(t, want)
		}
	}
}

// P5.3: opcodes with no operand are followed by the next opcode.
func TestReadNoOperand(t *testing.T) {
	for _, x := range rows() {
		if x.operand() {
			continue
		}
		i := api.Instr{Op: x.op}
		compare(t,
			reading{[]byte{1, x.op, 31, 31}, 0, []api.Instr{i}, 2, 0},
			reading{[]byte{2, x.op, 31}, 0, []api.Instr{i, {Op: api.OpRet}}, 3, 0},
			reading{[]byte{2, x.op, 1, 31, 0}, 0, []api.Instr{i, {Op: api.OpConst, A: 31}}, 5, 0},
		)
	}
}

// P5.3: an input that ends ahead of an opcode, or of either byte of an operand, whatever the first byte is.
func TestReadShort(t *testing.T) {
	refused(t, api.ErrShort, 0, []byte{1}, []byte{200}, []byte{2, 31}, []byte{2, 1, 3, 0}, []byte{200, 31, 31})
	refused(t, api.ErrShort, 1, []byte{31, 1}, []byte{0, 2, 31})
	for _, x := range rows() {
		if !x.operand() {
			continue
		}
		refused(t, api.ErrShort, 0, []byte{1, x.op}, []byte{2, 31, x.op}, []byte{2, x.op})
		for a := range 256 {
			refused(t, api.ErrShort, 0, []byte{1, x.op, byte(a)}, []byte{2, 31, x.op, byte(a)}, []byte{2, x.op, byte(a)})
		}
	}
}

// P5.3: of two errors, the one that is met first.
func TestReadFirstError(t *testing.T) {
	refused(t, api.ErrArg, 2, []byte{0})            // ahead of a count of 0
	refused(t, api.ErrArg, -1, []byte{201})         // ahead of a count of 201
	refused(t, api.ErrOp, 0, []byte{0})             // ahead of missing instructions
	refused(t, api.ErrOp, 0, []byte{201, 1})        // ahead of a missing operand
	refused(t, api.ErrOp, 0, []byte{200, 33})       // ahead of 199 missing opcodes
	refused(t, api.ErrOp, 0, []byte{2, 1, 32, 0})   // ahead of a missing opcode
	refused(t, api.ErrOp, 0, []byte{2, 28, 0, 0})   // likewise
	refused(t, api.ErrOp, 0, []byte{2, 28, 101, 0}) // likewise
	refused(t, api.ErrOp, 0, []byte{2, 1, 0, 1, 1}) // ahead of a missing operand
	refused(t, api.ErrOp, 0, []byte{3, 31, 33, 1})  // likewise
	refused(t, api.ErrShort, 0, []byte{1, 1, 32})   // ahead of an operand that would be out of its range
	refused(t, api.ErrShort, 0, []byte{1, 28, 0})   // likewise
	refused(t, api.ErrShort, 0, []byte{2, 31, 1, 255})
	refused(t, api.ErrOp, 0, []byte{2, 1, 32, 0, 33}, []byte{2, 33, 1, 32, 0})
}

// P5.3: bytes between the length and the capacity of the input do not belong to it.
func TestReadBeyondLength(t *testing.T) {
	b := []byte{3, 1, 3, 0, 22, 0, 4, 31}
	for size := range len(b) {
		refused(t, api.ErrShort, 0, b[:size])
		refused(t, api.ErrArg, size+1, b[:size])
	}
}

// parsed compares Parse of s with what the lines of s stand for, and tells whether s is a text.
func parsed(t *testing.T, lines map[string]api.Instr, s string) bool {
	t.Helper()
	want, is := meaning(lines, s)
	e := api.OK
	if !is {
		want, e = nil, api.ErrOp
	}
	if l, le := code.Parse(s); !slices.Equal(l, want) || le != e {
		t.Errorf("Parse(%.100q) = %v, %d", s, l, le)
	}
	return is
}

// P5.4: each line alone, and texts of each length.
func TestParse(t *testing.T) {
	if l, e := code.Parse("const 3\nret\n"); !slices.Equal(l, []api.Instr{{Op: api.OpConst, A: 3}, {Op: api.OpRet}}) || e != 0 {
		t.Errorf("%v, %d", l, e)
	}
	for _, i := range valid() {
		if l, e := code.Parse(written(i)); !slices.Equal(l, []api.Instr{i}) || e != 0 {
			t.Errorf("Parse(%q) = %v, %d", written(i), l, e)
		}
	}
	for _, want := range codes() {
		if l, e := code.Parse(allWritten(want)); !slices.Equal(l, want) || e != 0 {
			t.Errorf("the text of %d instructions: %v, %d", len(want), l, e)
		}
	}
}

// P5.4: texts of no code.
func TestParseWrong(t *testing.T) {
	for _, s := range []string{
		"", " ", "\n", "\n\n", "\x00", "0", "31\n", "-1\n",
		"ret", "const 3", "const 3\nret", "ret\nret", // without the last line's end
		"ret\n\n", "\nret\n", "ret\n\nret\n", "\n\nret\n", "ret\n ", "ret\n \n", // with an empty line
		"ret\r\n", "ret\r", "ret\n\r", "ret\x00\n", "ret\n\x00", "ret\v\n", "ret\u2028", "ret\u0085", // with another end
		"ret \n", " ret\n", "\tret\n", "ret\t\n", "const  3\n", "const\t3\n", "const\u00a03\n", "const 3 \n", " const 3\n", "const 3\n ret\n", "const3\n", "const\n3\n", // blanks
		"const\n", "const \n", "const  \n", "loop\n", "jump\n", "trap\n", // no operand
		"ret 0\n", "ret 1\n", "nop 0\n", "add 3\n", "ret -0\n", "ret  \n", "const 3 0\n", "const 3 3\n", "trap 1,\n", // an operand too many
		"const +3\n", "const -3\n", "const -0\n", "const +0\n", "const --3\n", // signs
		"const 03\n", "const 00\n", "const 003\n", "new 01024\n", "const 0x3\n", "const 0b1\n", "const 0o7\n", // zeros ahead
		"const 1_0\n", "const 3.\n", "const 3.0\n", "const 1e1\n", "const 3a\n", "const a\n", "const \u0663\n", "const ３\n", // what is no number
		"const 32\n", "get 16\n", "set 16\n", "load 4\n", "store 4\n", "new 1025\n", "jump 200\n", "zero 200\n", "again 200\n", "call 16\n", "trap 256\n", "loop 0\n", "loop 101\n", // out of range
		"const 65536\n", "const 65539\n", "const 4294967296\n", "const 4294967299\n", "const 9223372036854775807\n", "const 9223372036854775808\n", "const 18446744073709551616\n", "const 18446744073709551619\n", "const -9223372036854775808\n",
		"const -1\n", "loop -1\n", "trap -1\n", "const " + strings.Repeat("9", 1000) + "\n", "const " + strings.Repeat("0", 1000) + "3\n",
		"RET\n", "Ret\n", "reT\n", "CONST 3\n", "Const 3\n", "OpRet\n", "opret\n", // upper case
		"count\n", "count 3\n", "none\n", "return\n", "re t\n", "retret\n", "consts 3\n", "cons 3\n", "x\n", "32 3\n", // no name
		"ret;\n", "ret // the end\n", "ret # the end\n", "0 ret\n", "ret,ret\n", "ret ret\n",
		"ret\nconst 32\n", "const 32\nret\n", "ret\nx\nret\n", // one wrong line among others
		"\xff", "ret\xff\n", "\ufeffret\n", "ret\n\xff",
	} {
		if l, e := code.Parse(s); len(l) != 0 || e != api.ErrOp {
			t.Errorf("Parse(%.50q) = %v, %d", s, l, e)
		}
	}
}

// P5.4: 200 lines at most.
func TestParseCount(t *testing.T) {
	lines := meanings()
	for _, one := range []string{"nop\n", "ret\n", "const 3\n", "trap 255\n"} {
		for _, n := range []int{0, 1, 2, 199, 200, 201, 202, 255, 256, 257, 400, 456, 1 << 16} {
			if is := parsed(t, lines, strings.Repeat(one, n)); is != (1 <= n && n <= 200) {
				t.Errorf("%d times %q is judged wrongly by this test", n, one)
			}
		}
		parsed(t, lines, strings.Repeat(one, 200)+"\n")
		parsed(t, lines, strings.Repeat(one, 200)+"x")
		parsed(t, lines, strings.Repeat(one, 200)+"nop")
		parsed(t, lines, strings.Repeat(one, 199)+"nop")
		parsed(t, lines, strings.Repeat(one, 199)+"nop\n")
	}
}

// spoilt returns texts near s: with a byte more, less or other, wherever it stands.
func spoilt(s string) []string {
	l := []string{strings.ToUpper(s), s + s, strings.ReplaceAll(s, "\n", "\r\n"), strings.ReplaceAll(s, "\n", "")}
	for i := range len(s) + 1 {
		for _, c := range "0123456789 +-_.\n\t\r\x00aelprtxN" {
			l = append(l, s[:i]+string(c)+s[i:])
			if i < len(s) {
				l = append(l, s[:i]+string(c)+s[i+1:])
			}
		}
		l = append(l, s[:i], s[i:])
		if i < len(s) {
			l = append(l, s[:i]+s[i+1:], s[:i]+strings.ToUpper(s[i:i+1])+s[i+1:])
		}
	}
	return l
}

// P5.4: what is near a text is read only if it is a text too.
func TestParseNear(t *testing.T) {
	lines := meanings()
	texts, others := 0, 0
	for _, x := range rows() {
		for _, a := range []int{x.least, min(x.least+1, x.most), x.most / 2, x.most} {
			one := written(api.Instr{Op: x.op, A: max(a, x.least)})
			for _, s := range slices.Concat(spoilt(one), spoilt("const 3\n"+one), spoilt(one+"ret\n")) {
				if parsed(t, lines, s) {
					texts++
				} else {
					others++
				}
			}
		}
	}
	if texts < 1000 || others < 1000 {
		t.Errorf("%d texts and %d others are not enough", texts, others)
	}
}

// P5.5: code is read back from its encoding, wherever that stands and whatever surrounds it.
func TestRoundTrip(t *testing.T) {
	for _, l := range codes() {
		b, e := code.Bytes(l)
		if e != 0 {
			t.Fatalf("Bytes: %d", e)
		}
		for _, f := range [][2][]byte{{nil, nil}, {{0}, {0}}, {{255, 201}, {255}}, {{1, 31}, {31, 31}}, {{3, 1}, {1, 3}}, {make([]byte, 300), {1, 31}}} {
			laid := slices.Concat(f[0], b, f[1])
			compare(t, reading{laid, len(f[0]), l, len(f[0]) + len(b), 0})
		}
	}
}

// P5.5: encodings are read one behind the other.
func TestInRow(t *testing.T) {
	var laid []byte
	for _, l := range codes() {
		b, _ := code.Bytes(l)
		laid = append(laid, b...)
	}
	at := 0
	for _, l := range codes() {
		m, next, e := code.Read(laid, at)
		if !code.Same(l, m) || e != 0 {
			t.Fatalf("%d instructions at %d come back as %v, %d", len(l), at, m, e)
		}
		at = next
	}
	if at != len(laid) {
		t.Errorf("the last one ends at %d of %d", at, len(laid))
	}
}

// P5.5: the encoding of code that was read consists of the bytes that were read. The bytes are from a short rule, which makes many of them operands and opcodes.
func TestRoundTripOfBytes(t *testing.T) {
	read, x := 0, uint32(1)
	for range 20000 {
		b := make([]byte, 24)
		for k := range b {
			x = x*1664525 + 1013904223
			b[k] = byte(x>>24) % 34
			if k%3 != 1 && x>>20&7 != 0 {
				b[k] %= 2
			}
		}
		for at := range b {
			l, next, e := code.Read(b, at)
			if e != 0 {
				continue
			}
			read++
			if again, e := code.Bytes(l); !bytes.Equal(again, b[at:next]) || e != 0 || !code.May(l) {
				t.Fatalf("%v at %d is read as %v, and encoded as %v, %d", b, at, l, again, e)
			}
		}
	}
	if read < 10000 {
		t.Errorf("%d times code is read", read)
	}
}

// P5.5: code is read back from its text, and the text of code that was read is the text that was read.
func TestRoundTripOfTexts(t *testing.T) {
	for _, l := range codes() {
		s, _ := code.Text(l)
		if m, e := code.Parse(s); !code.Same(l, m) || e != 0 {
			t.Errorf("%d instructions come back as %v, %d", len(l), m, e)
		}
	}
	read := 0
	for _, x := range rows() {
		for _, s := range spoilt(written(api.Instr{Op: x.op, A: x.most}) + "jump 10\n") {
			l, e := code.Parse(s)
			if e != 0 {
				continue
			}
			read++
			if again, e := code.Text(l); again != s || e != 0 || !code.May(l) {
				t.Errorf("%q is read as %v, and written as %q, %d", s, l, again, e)
			}
		}
	}
	if read < 500 {
		t.Errorf("%d times code is read", read)
	}
}

// P5.6: without its last byte, or with still fewer, an encoding is too short.
func TestTruncation(t *testing.T) {
	for _, l := range codes() {
		b, _ := code.Bytes(l)
		for size := range len(b) {
			refused(t, api.ErrShort, 0, b[:size])
			refused(t, api.ErrShort, 2, append([]byte{1, 31}, b[:size]...))
		}
	}
}

// P5.6: one instruction more changes the count, and what it adds stands at the end.
func TestExtension(t *testing.T) {
	for n, last := range slices.Concat(valid(), valid()[:200]) {
		l := repeated(api.Instr{Op: api.OpTrap, A: 7}, n%199+1)
		short, _ := code.Bytes(l)
		long, e := code.Bytes(append(l, last))
		if e != 0 || int(long[0]) != len(l)+1 || int(short[0]) != len(l) {
			t.Fatalf("%d instructions and one more: %d", len(l), e)
		}
		if !bytes.Equal(long[1:len(short)], short[1:]) || !bytes.Equal(long[len(short):], encoded(last)) {
			t.Errorf("%d instructions and %v: %v", len(l), last, long)
		}
	}
	full := repeated(api.Instr{Op: api.OpNop}, 200)
	if _, e := code.Bytes(full); e != 0 {
		t.Errorf("200 instructions: %d", e)
	}
	if b, e := code.Bytes(append(full, full[0])); len(b) != 0 || e != api.ErrOp {
		t.Errorf("201 instructions: %v, %d", b, e)
	}
}

// Rules: what is passed is not changed, nor is the memory behind it.
func TestArgumentsAreLeft(t *testing.T) {
	memory := []byte{9, 2, 1, 3, 0, 31, 9, 9}
	kept := bytes.Clone(memory)
	for size := range len(memory) {
		for at := range size + 2 {
			code.Read(memory[:size], at)
		}
	}
	if !bytes.Equal(memory, kept) {
		t.Errorf("the bytes have become %v", memory)
	}
	l := []api.Instr{{Op: api.OpConst, A: 3}, {Op: api.OpRet}, {Op: 77, A: 7, B: 7}, {Op: 78}}
	for size := range len(l) + 1 {
		code.May(l[:size])
		code.Bytes(l[:size])
		code.Text(l[:size])
		code.Same(l[:size], l[:2])
	}
	if !slices.Equal(l, []api.Instr{{Op: api.OpConst, A: 3}, {Op: api.OpRet}, {Op: 77, A: 7, B: 7}, {Op: 78}}) {
		t.Errorf("the instructions have become %v", l)
	}
}

// Rules: what is returned shares memory neither with what was passed nor with another answer.
func TestOtherMemory(t *testing.T) {
	l := []api.Instr{{Op: api.OpConst, A: 3}, {Op: api.OpRet}}
	encoding := []byte{2, 1, 3, 0, 31}
	written, _ := code.Bytes(l)
	read, _, _ := code.Read(encoding, 0)
	parsed, _ := code.Parse("const 3\nret\n")
	clear(written)
	clear(read)
	clear(parsed)
	if b, e := code.Bytes(l); !bytes.Equal(b, encoding) || e != 0 {
		t.Errorf("Bytes = %v, %d", b, e)
	}
	compare(t, reading{encoding, 0, l, 5, 0})
	if m, e := code.Parse("const 3\nret\n"); !slices.Equal(l, m) || e != 0 {
		t.Errorf("Parse = %v, %d", m, e)
	}
	m, _, _ := code.Read(encoding, 0)
	clear(encoding)
	if !slices.Equal(l, m) {
		t.Errorf("what was read follows the bytes: %v", m)
	}
}
