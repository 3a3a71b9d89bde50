package types_test

import (
	"slices"
	"strings"
	"testing"

	"capstan/api"
	"capstan/sample"
	"capstan/types"
)

// told returns the rows as they are written in these tests: kinds as letters, an index that is not reached as a hyphen.
func told(rows []types.Row) string {
	var l []string
	for _, r := range rows {
		text := "-"
		if r.Reached {
			text = ""
		}
		for _, kind := range r.Kinds {
			text += string("onpr"[kind])
		}
		l = append(l, text)
	}
	return strings.Join(l, "|")
}

// compareRows holds the rows of the method 0 of m against what they are to be.
func compareRows(t *testing.T, m api.Module, want string) {
	t.Helper()
	if rows, e := types.Rows(m, 0); e != 0 || told(rows) != want {
		t.Errorf("%s %d, not %s, of %v", told(rows), e, want, m.Methods[0].Code)
	}
	if e := types.Check(m, 0); e != 0 {
		t.Errorf("Check: %d, of %v", e, m.Methods[0].Code)
	}
}

// P10.1: the chapter's example, with the rows that it tells.
func TestRowsExample(t *testing.T) {
	m := alone(methodOf("n", "", "n", sample.Code("get 0; const 0; add; ret")))
	m.Pool = values("n")
	compareRows(t, m, "|n|nn|n")
}

// P10.1: the row of each index, and which indices are reached.
func TestRows(t *testing.T) {
	for _, x := range []struct{ text, rows string }{
		{"trap", ""},
		{"get 0; ret", "|n"},
		{"get 2; get 1; get 0; at; swap; im; add; ret", "|p|pr|prn|pn|np|nn|n"},
		{"const 0; const 1; conj; re; pair; dup; padd; get 2; pmul; store 1; trap 3", "|n|np|np|nn|p|pp|p|pp|p|"},
		{"get 3; new 9; dup; get 0; get 0; put; len; ret", "|n|r|rr|rrn|rrnn|r|n"},
		{"get 1; call 3; get 2; swap; call 1; pop; call 2; ret", "|r|n|np|pn|p||n"},
		{"load 0; load 1; get 4; get 3; call 4; re; ret", "|n|np|npr|nprn|p|n"},
		{"trap; ret; add; nop; trap", "|-|-|-|-"},
		{"jump 3; add; ret; get 0; jump 6; pop; ret", "|-|-||n|-|n"},
		{"get 0; zero 5; get 0; ret; pop; get 2; re; ret", "|n||n|-||p|n"},
		{"get 2; get 0; zero 6; conj; jump 7; add; nop; re; ret", "|p|pn|p|p|-|p|p|n"},
		{"get 0; loop 3; get 3; add; again 1; ret", "|n|n|nn|n|n"},
		{"get 2; loop 2; loop 3; get 0; zero 7; again 2; nop; pop; get 1; pop; load 1; again 1; re; ret", "|p|p|p|pn|p|p|p||r||p|p|n"},
		{"loop 2; trap; again 0; add; ret", "||-|-|-"},
		{"loop 2; jump 4; get 0; again 0; get 3; ret", "||-|-||n"},
	} {
		compareRows(t, with(sample.Code(x.text)), x.rows)
	}
}

// P10.1: a row tells the kind of each thing that is named: constants, locals, globals and results.
func TestRowsDeclared(t *testing.T) {
	m := with(sample.Code("const 0; const 1; const 2; get 0; get 1; get 2; get 3; get 4; load 0; load 1; trap"))
	rows, e := types.Rows(m, 0)
	if e != 0 || told(rows[10:]) != "npnnrpnrnp" {
		t.Errorf("%v %d", rows, e)
	}
	for k, m := range []api.Module{alone(methodOf("", "", "n", nil)), alone(methodOf("", "", "p", nil))} {
		m.Methods[0].Code = sample.Code("call 0; trap")
		compareRows(t, m, "|"+"np"[k:k+1])
	}
}

// P10.1: the rows of other methods than the first one, which has an error.
func TestRowsOther(t *testing.T) {
	m := with(sample.Code("nop"))
	for n, want := range []string{"|p|pn|p|p", "||n||p|||n", "|r|n|nn|n|n", "|p|pn|pnn|pn|pnn|pnn|pn|p"} {
		if rows, e := types.Rows(m, n+1); e != 0 || told(rows) != want {
			t.Errorf("%s %d, not %s, of method %d", told(rows), e, want, n+1)
		}
	}
	compareError(t, m, 0, badJump)
}

// P10.1: two hundred instructions, with rows of up to 199 values, and of as many values that are taken again.
func TestRowsLong(t *testing.T) {
	m := with(append(slices.Repeat(sample.Code("get 0"), 199), sample.Code("ret")...))
	rows, e := types.Rows(m, 0)
	if e != 0 || len(rows) != 200 || types.Height(rows) != 199 {
		t.Fatalf("%d rows, %d", len(rows), e)
	}
	for at, r := range rows {
		if !r.Reached || string(r.Kinds) != strings.Repeat("\x01", at) {
			t.Errorf("at %d: %v", at, r)
		}
	}
	m.Methods[0].Code[199] = api.Instr{Op: api.OpTrap}
	compareError(t, m, 0, 0)
	m.Methods[0].Code = slices.Concat(slices.Repeat(sample.Code("get 0"), 100), slices.Repeat(sample.Code("add"), 99), sample.Code("ret"))
	compareError(t, m, 0, 0)
	m.Methods[0].Code = slices.Concat(slices.Repeat(sample.Code("get 0"), 100), slices.Repeat(sample.Code("pop"), 99), sample.Code("ret"))
	compareError(t, m, 0, 0)
	m.Methods[0].Code = slices.Concat(slices.Repeat(sample.Code("get 0"), 99), slices.Repeat(sample.Code("add"), 99), sample.Code("nop; ret"))
	compareError(t, m, 0, badStack)
	m.Methods[0].Code = slices.Concat(sample.Code("get 2"), slices.Repeat(sample.Code("dup"), 99), slices.Repeat(sample.Code("padd"), 98), sample.Code("pop; ret"))
	compareError(t, m, 0, badType)
	m.Methods[0].Code = append(slices.Repeat(sample.Code("get 0"), 200), sample.Code("ret")...)
	compareError(t, m, 0, badOp)
	m.Methods[0].Code = append(slices.Repeat(sample.Code("trap"), 198), sample.Code("add; ret")...)
	compareError(t, m, 0, 0)
}

// P10.1: rows that meet, of one length, that differ in one place, wherever it is.
func TestRowsDiffer(t *testing.T) {
	for _, n := range []int{1, 2, 7, 65} {
		for at := range n {
			for _, x := range []struct {
				a    int
				want api.Errno
			}{{3, 0}, {2, badType}, {1, badType}} {
				// One way leaves n integers as they are; the other one pops those from at on, and pushes them anew.
				end := n + 2 + 2*(n-at)
				l := append(slices.Repeat(sample.Code("get 0"), n+1), api.Instr{Op: api.OpZero, A: end})
				l = append(l, slices.Repeat(sample.Code("pop"), n-at)...)
				l = append(l, api.Instr{Op: api.OpGet, A: x.a})
				l = append(l, slices.Repeat(sample.Code("get 0"), n-at-1)...)
				compareError(t, with(append(l, api.Instr{Op: api.OpTrap})), 0, x.want)
			}
		}
	}
}

// P10.2: the length of the longest row, wherever it stands; no rows, and rows that are all empty.
func TestHeight(t *testing.T) {
	row := func(n int) types.Row { return types.Row{Reached: true, Kinds: make([]uint8, n)} }
	none := types.Row{}
	for _, x := range []struct {
		rows []types.Row
		want int
	}{
		{nil, 0}, {[]types.Row{}, 0}, {[]types.Row{none}, 0}, {[]types.Row{row(0)}, 0}, {[]types.Row{row(0), none, row(0)}, 0}, {make([]types.Row, 200), 0},
		{[]types.Row{row(1)}, 1}, {[]types.Row{row(3), row(2), row(1)}, 3}, {[]types.Row{row(0), row(1), row(4)}, 4}, {[]types.Row{row(0), row(5), none, row(2)}, 5}, {[]types.Row{row(2), row(2), row(2)}, 2},
		{[]types.Row{row(7), row(0), none}, 7}, {[]types.Row{none, none, row(1), none}, 1}, {[]types.Row{row(199)}, 199}, {[]types.Row{row(1), row(255), row(256), row(257), row(3)}, 257}, {[]types.Row{row(1), row(1 << 16)}, 1 << 16},
	} {
		kept := slices.Clone(x.rows)
		if n := types.Height(x.rows); n != x.want {
			t.Errorf("%d, not %d", n, x.want)
		}
		for n, r := range x.rows {
			if r.Reached != kept[n].Reached || slices.ContainsFunc(r.Kinds, func(kind uint8) bool { return kind != 0 }) {
				t.Errorf("%v has changed", x.rows)
			}
		}
	}
}

// P10.2: the height of the rows of methods.
func TestHeightOfMethods(t *testing.T) {
	for text, want := range map[string]int{
		"trap": 0, "jump 3; get 0; get 0; trap": 0, "get 0; ret": 1, "get 0; get 0; get 0; add; add; ret": 3, "get 0; get 0; add; ret": 2, "get 0; zero 5; get 1; get 1; trap; trap": 2, "trap; get 0; get 0; get 0; trap": 0,
		"get 0; get 1; get 2; get 3; trap": 4, "get 0; get 1; get 2; get 3; pop; pop; pop; pop; trap": 4,
	} {
		rows, e := types.Rows(with(sample.Code(text)), 0)
		if n := types.Height(rows); n != want || e != 0 {
			t.Errorf("%d, not %d, of %s: %d", n, want, text, e)
		}
	}
}
