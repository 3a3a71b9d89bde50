package types_test

import (
	"slices"
	"testing"

	"capstan/api"
	"capstan/module"
	"capstan/sample"
	"capstan/types"
)

// spoilRows writes something else into all memory of the rows.
func spoilRows(rows []types.Row) {
	for _, r := range rows {
		sample.Spoil(r.Kinds, 99)
	}
	sample.Spoil(rows, types.Row{Reached: true, Kinds: kinds("xox")})
}

// equalRow tells whether two rows are.
func equalRow(a, b types.Row) bool {
	return a.Reached == b.Reached && slices.Equal(a.Kinds, b.Kinds)
}

// copied returns equal rows in memory of their own.
func copied(rows []types.Row) []types.Row {
	l := slices.Clone(rows)
	for n, r := range l {
		l[n].Kinds = slices.Clone(r.Kinds)
	}
	return l
}

// modules returns modules whose methods have errors and have none.
func modules() []api.Module {
	var l []api.Module
	for _, text := range []string{
		"get 0; get 0; zero 4; dup; swap; add; ret", "get 0; dup; nop; nop; loop 2; nop; again 4; zero 9; nop; ret", "get 2; get 1; get 0; nop; zero 6; nop; pop; re; ret", "jump 2; add; nop; get 0; zero 6; nop; trap", "trap",
		"get 0; get 1; get 2; get 1; get 0; put; trap", "add; ret", "get 9; ret", "nop", "again 0",
	} {
		l = append(l, with(sample.Code(text)))
	}
	for seed := range 50 {
		l = append(l, with(grown(seed)), with(changed(seed, grown(seed))))
	}
	return append(l, with(append(slices.Repeat(sample.Code("get 0"), 199), sample.Code("ret")...)), api.Module{})
}

// What is passed stays as it was, and so does what stands behind its lists; the answer does not hang on that.
func TestPassed(t *testing.T) {
	for _, m := range modules() {
		passed := sample.Twin(m)
		kept := sample.Twin(sample.Whole(passed))
		for k := -1; k <= len(m.Methods); k++ {
			want, e := types.Rows(m, k)
			rows, got := types.Rows(passed, k)
			if got != e || types.Check(passed, k) != e || !slices.EqualFunc(rows, want, equalRow) {
				t.Errorf("%v %d, not %v %d", rows, got, want, e)
			}
			copies := copied(rows)
			types.Height(rows)
			if !slices.EqualFunc(rows, copies, equalRow) {
				t.Errorf("%v has changed, into %v", copies, rows)
			}
			spoilRows(rows)
		}
		if !module.Same(sample.Whole(passed), kept) {
			t.Fatalf("%v has changed, into %v", kept, sample.Whole(passed))
		}
	}
}

// What is returned is the caller's own: writing into it changes no later answer, and a later change of what was passed does not change it.
func TestReturned(t *testing.T) {
	for _, m := range modules() {
		for k := range m.Methods {
			passed := sample.Twin(m)
			rows, e := types.Rows(passed, k)
			kept := copied(rows)
			sample.Spoil(passed.Globals, api.Value{Kind: 9})
			sample.Spoil(passed.Pool, api.Value{Kind: 9})
			for _, x := range passed.Methods {
				sample.Spoil(x.Args, 9)
				sample.Spoil(x.Locals, 9)
				sample.Spoil(x.Code, api.Instr{Op: 9})
			}
			sample.Spoil(passed.Methods, api.Method{Fuel: 9})
			if !slices.EqualFunc(rows, kept, equalRow) {
				t.Fatalf("%v has changed, into %v", kept, rows)
			}
			spoilRows(rows)
			again, other := types.Rows(m, k)
			if other != e || !slices.EqualFunc(again, kept, equalRow) {
				t.Fatalf("%v %d, not %v %d", again, other, kept, e)
			}
		}
	}
}

// No two rows share memory: what is written into one, or appended to it, changes no other.
func TestRowsApart(t *testing.T) {
	for _, m := range modules() {
		rows, _ := types.Rows(m, 0)
		kept := copied(rows)
		for n := range rows {
			sample.Spoil(rows[n].Kinds, 99)
			rows[n].Kinds = append(rows[n].Kinds, 98, 97)
			for k := range rows {
				if k != n && !equalRow(rows[k], kept[k]) {
					t.Fatalf("row %d has changed with row %d: %v, of %v", k, n, rows[k], kept)
				}
			}
			rows[n].Kinds = slices.Clone(kept[n].Kinds)
		}
	}
}
