package machine_test

import (
	"slices"
	"testing"

	"capstan/api"
	"capstan/module"
	"capstan/sample"
)

// questions are of all sorts, with outcomes and with each error.
func questions() []question {
	l := handmade()
	d := sample.Dice(4)
	for q := range samples {
		if d.Below(8) > 0 {
			continue
		}
		other := q
		other.m = altered(q.m, &d)
		l = append(l, q, other.limited(2000, 256, 1024), q.lower(&d))
		switch d.Below(4) {
		case 0:
			other.args = append(slices.Clone(q.args), n(1))
		case 1:
			other.globals = append(slices.Clone(q.globals), p(1, 1))
		case 2:
			other.method = len(q.m.Methods)
		default:
			other.limit.Heap = -1
		}
		l = append(l, other)
	}
	return l
}

// The questions are answered in each way that there is.
func TestQuestions(t *testing.T) {
	often := map[api.Errno]int{}
	stored, trapped := 0, 0
	for _, q := range questions() {
		got := compare(t, q)
		often[got.e]++
		switch {
		case got.out.Trap != 0:
			trapped++
		case got.e == 0 && !slices.Equal(got.after, q.globals):
			stored++
		}
	}
	for _, e := range []api.Errno{0, badArg, badFull, badOp, badStack, badFuel} {
		if often[e] < 3 {
			t.Errorf("%d errors %d", often[e], e)
		}
	}
	if stored < 20 || trapped < 20 {
		t.Errorf("%d stored, %d trapped", stored, trapped)
	}
}

// twin returns an equal question in memory of its own, with room behind each list that holds something else.
func (q question) twin() question {
	q.m, q.args, q.globals = sample.Twin(q.m), sample.Roomy(q.args, ref(3), n(9), p(1, 1)), sample.Roomy(q.globals, n(8), ref(2), p(2, 2))
	return q
}

// whole returns all memory of the question, capacity included.
func (q question) whole() question {
	q.m, q.args, q.globals = sample.Whole(q.m), q.args[:cap(q.args)], q.globals[:cap(q.globals)]
	return q
}

// copied returns an equal question in memory of its own.
func (q question) copied() question {
	return q.changed(func(*question) {})
}

// holdWhole holds that nothing in the memory of a question has changed.
func holdWhole(t *testing.T, q, kept question) {
	t.Helper()
	now := q.whole()
	if !module.Same(now.m, kept.m) || !slices.Equal(now.args, kept.args) || !slices.Equal(now.globals, kept.globals) {
		t.Fatalf("%v has changed, into %v", kept, now)
	}
}

// What is passed stays as it was, and so does what stands behind its lists, also behind an error; the answer does not hang on that.
func TestPassed(t *testing.T) {
	for _, q := range questions() {
		want := q.ask()
		twin := q.twin()
		kept := twin.whole().copied()
		if got := twin.ask(); !got.same(want) {
			t.Errorf("%v, not %v, of %v", got, want, q)
		}
		holdWhole(t, twin, kept)
	}
}

// What is returned is the caller's own: writing into it changes neither what was passed nor a later answer.
func TestReturned(t *testing.T) {
	for _, q := range questions() {
		want := q.copied().ask()
		twin := q.twin()
		kept := twin.whole().copied()
		for range 3 {
			got := twin.ask()
			if !got.same(want) {
				t.Fatalf("%v, not %v, of %v", got, want, q)
			}
			sample.Spoil(got.after, api.Value{Kind: 99, A: 7})
			holdWhole(t, twin, kept)
		}
	}
}

// A later change of what was passed does not change what was returned, nor does a later call.
func TestKept(t *testing.T) {
	for _, q := range questions() {
		twin := q.twin()
		got := twin.ask()
		after := slices.Clone(got.after)
		second := twin.ask()
		sample.Spoil(second.after, api.Value{Kind: 98})
		sample.SpoilModule(twin.m)
		sample.Spoil(twin.args, api.Value{Kind: 97})
		sample.Spoil(twin.globals, api.Value{Kind: 96})
		if !slices.Equal(got.after, after) {
			t.Fatalf("%v has changed, into %v", after, got.after)
		}
	}
}

// A question whose lists are one memory is answered like any other.
func TestOneMemory(t *testing.T) {
	values, kinds, code := sample.Values("nnnn"), sample.Kinds("nnn"), sample.Code("get 0; store 1; const 1; store 0; get 1; load 0; add; ret")
	x := api.Method{Args: kinds[:2], Locals: kinds[1:], Result: 1, Code: code}
	m := api.Module{Globals: values[:2], Pool: values[1:], Methods: []api.Method{x, x}, Migrate: -1}
	q := question{m: m, method: 1, args: values[2:], globals: values[:2], limit: sample.Most()}
	want := answer{[]api.Value{n(2), n(2)}, api.Outcome{Result: n(5)}, api.Cert{Fuel: 8, Stack: 6}, 0}
	for range 2 {
		if got := q.ask(); !got.same(want) {
			t.Errorf("%v, not %v", got, want)
		}
	}
	if !slices.Equal(values, sample.Values("nnnn")) {
		t.Errorf("%v", values)
	}
}

// A nil list is like an empty one.
func TestNil(t *testing.T) {
	empty := question{m: api.Module{Globals: []api.Value{}, Pool: []api.Value{}, Methods: []api.Method{{Args: []uint8{}, Locals: []uint8{}, Result: 1, Code: []api.Instr{}}, {Result: 1, Code: sample.Code("trap")}}, Migrate: -1}, args: []api.Value{}, globals: []api.Value{}, limit: sample.Most()}
	none := question{m: api.Module{Methods: []api.Method{{Result: 1}, {Result: 1, Code: sample.Code("trap")}}, Migrate: -1}, limit: sample.Most()}
	for _, q := range []question{empty, none} {
		fails(t, q, badOp)
		q.method = 1
		traps(t, q, own, api.Cert{Fuel: 1})
	}
	fails(t, question{}, badArg)
	fails(t, question{m: api.Module{Methods: []api.Method{}}}, badArg)
}
