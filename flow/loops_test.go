package flow_test

import (
	"math"
	"slices"
	"testing"

	"capstan/api"
	"capstan/flow"
)

// row is code with what the functions are to return: its loops, the execution bounds, and the successors of each index.
type row struct {
	text  string
	loops []flow.Loop
	times []int
	ways  [][]int
}

// rows returns code with loops of all sorts.
func rows() []row {
	return []row{
		{"ret", nil, []int{1}, [][]int{nil}},
		{"trap 255", nil, []int{1}, [][]int{nil}},
		{"loop 3; nop; again 0; ret", []flow.Loop{{0, 2, 3}}, []int{1, 3, 3, 1}, [][]int{{1}, {2}, {1, 3}, nil}},
		{"loop 1; again 0; ret", []flow.Loop{{0, 1, 1}}, []int{1, 1, 1}, [][]int{{1}, {1, 2}, nil}},
		{"loop 100; again 0; ret", []flow.Loop{{0, 1, 100}}, []int{1, 100, 1}, [][]int{{1}, {1, 2}, nil}},
		{"jump 1; ret", nil, []int{1, 1}, [][]int{{1}, nil}},
		{"jump 2; ret; trap 0", nil, []int{1, 1, 1}, [][]int{{2}, nil, nil}},
		{"zero 1; ret", nil, []int{1, 1}, [][]int{{1}, nil}},
		{"zero 2; ret; ret", nil, []int{1, 1, 1}, [][]int{{1, 2}, nil, nil}},
		{"zero 3; zero 3; zero 3; ret", nil, []int{1, 1, 1, 1}, [][]int{{1, 3}, {2, 3}, {3}, nil}},
		{"loop 3; jump 3; again 0; ret", []flow.Loop{{0, 2, 3}}, []int{1, 3, 3, 1}, [][]int{{1}, {3}, {1, 3}, nil}},
		{"loop 2; again 0; loop 3; nop; again 2; trap 1", []flow.Loop{{0, 1, 2}, {2, 4, 3}}, []int{1, 2, 1, 3, 3, 1}, [][]int{{1}, {1, 2}, {3}, {4}, {3, 5}, nil}},
		{"nop; loop 2; loop 3; again 2; again 1; ret", []flow.Loop{{1, 4, 2}, {2, 3, 3}}, []int{1, 1, 2, 6, 2, 1}, [][]int{{1}, {2}, {3}, {3, 4}, {2, 5}, nil}},
		{
			"loop 2; loop 3; again 1; zero 7; loop 5; jump 6; again 4; again 0; ret",
			[]flow.Loop{{0, 7, 2}, {1, 2, 3}, {4, 6, 5}}, []int{1, 2, 6, 2, 2, 10, 10, 2, 1},
			[][]int{{1}, {2}, {2, 3}, {4, 7}, {5}, {6}, {5, 7}, {1, 8}, nil},
		},
		{
			"loop 2; loop 3; loop 5; loop 7; zero 8; again 3; again 2; again 1; again 0; ret",
			[]flow.Loop{{0, 8, 2}, {1, 7, 3}, {2, 6, 5}, {3, 5, 7}}, []int{1, 2, 6, 30, 210, 210, 30, 6, 2, 1},
			[][]int{{1}, {2}, {3}, {4}, {5, 8}, {4, 6}, {3, 7}, {2, 8}, {1, 9}, nil},
		},
		{
			"loop 100; loop 100; loop 100; loop 100; again 3; again 2; again 1; again 0; ret",
			[]flow.Loop{{0, 7, 100}, {1, 6, 100}, {2, 5, 100}, {3, 4, 100}}, []int{1, 100, 10000, 1000000, 100000000, 1000000, 10000, 100, 1},
			[][]int{{1}, {2}, {3}, {4}, {4, 5}, {3, 6}, {2, 7}, {1, 8}, nil},
		},
		{
			"loop 1; loop 1; loop 1; loop 1; again 3; again 2; again 1; again 0; ret",
			[]flow.Loop{{0, 7, 1}, {1, 6, 1}, {2, 5, 1}, {3, 4, 1}}, []int{1, 1, 1, 1, 1, 1, 1, 1, 1},
			[][]int{{1}, {2}, {3}, {4}, {4, 5}, {3, 6}, {2, 7}, {1, 8}, nil},
		},
	}
}

// P9.2, P9.3: what the functions return of code that is written out, the chapter's example among it.
func TestRows(t *testing.T) {
	for _, x := range rows() {
		l := written(x.text)
		compareError(t, l, 0)
		if loops, e := flow.Loops(l); e != 0 || !slices.Equal(loops, x.loops) {
			t.Errorf("Loops: %v %v, not %v, of %s", loops, e, x.loops, x.text)
		}
		if times, e := flow.Times(l); e != 0 || !slices.Equal(times, x.times) {
			t.Errorf("Times: %v %v, not %v, of %s", times, e, x.times, x.text)
		}
		for at, want := range x.ways {
			if ways, e := flow.Ways(l, at); e != 0 || !slices.Equal(ways, want) {
				t.Errorf("Ways(%d): %v %v, not %v, of %s", at, ways, e, want, x.text)
			}
		}
	}
}

// P9.2, P9.3: the same of all short code that is well-formed, and of longer code, held against the chapter's own words.
func TestWellFormed(t *testing.T) {
	for l, want := range wellFormed() {
		if loops, e := flow.Loops(l); e != 0 || !slices.Equal(loops, want) {
			t.Fatalf("Loops: %v %v, not %v, of %v", loops, e, want, l)
		}
		if times, e := flow.Times(l); e != 0 || !slices.Equal(times, boundsOf(want, len(l))) {
			t.Fatalf("Times: %v %v, not %v, of %v", times, e, boundsOf(want, len(l)), l)
		}
		for at := range l {
			if ways, e := flow.Ways(l, at); e != 0 || !slices.Equal(ways, waysOf(l, at)) {
				t.Fatalf("Ways(%d): %v %v, not %v, of %v", at, ways, e, waysOf(l, at), l)
			}
		}
	}
}

// P9.2: loops are listed in the order of their OpLoops, as many as code can have, whichever ends first.
func TestLoopsMany(t *testing.T) {
	var l []api.Instr
	var want []flow.Loop
	for at := 0; at < 198; at += 2 {
		want = append(want, flow.Loop{From: at, To: at + 1, Turns: 1 + at/2})
		l = append(l, tower(at, 1+at/2)...)
	}
	l = closed(closed(l))
	if loops, e := flow.Loops(l); e != 0 || !slices.Equal(loops, want) {
		t.Errorf("%v %v", loops, e)
	}
	l, want = nil, nil
	for at := 0; at < 192; at += 8 {
		for k := range 4 {
			want = append(want, flow.Loop{From: at + k, To: at + 7 - k, Turns: 100 - 20*k})
		}
		l = append(l, tower(at, 100, 80, 60, 40)...)
	}
	if loops, e := flow.Loops(closed(l)); e != 0 || !slices.Equal(loops, want) {
		t.Errorf("%v %v", loops, e)
	}
}

// P9.3: the successors of each opcode, at an index with others on both sides.
func TestWaysEach(t *testing.T) {
	for k, r := range ranges() {
		l := []api.Instr{{Op: loop, A: 9}, {Op: nop}, {Op: uint8(k), A: r[1]}, {Op: nop}, {Op: again}, {Op: nop}, {Op: ret}}
		want := []int{3}
		switch l[2].Op {
		case jump:
			l[2].A, want = 5, []int{5}
		case zero:
			l[2].A, want = 6, []int{3, 6}
		case loop:
			l[3], want = api.Instr{Op: again, A: 2}, []int{3}
		case again:
			l[1], l[2].A, want = api.Instr{Op: loop, A: 1}, 1, []int{2, 3}
		case ret, trap:
			want = nil
		}
		if ways, e := flow.Ways(l, 2); e != 0 || !slices.Equal(ways, want) {
			t.Errorf("%d: %v %v, not %v", k, ways, e, want)
		}
	}
}

// P9.3: each target of an OpZero: the next index just once, and any other one behind it.
func TestWaysZero(t *testing.T) {
	for to := 1; to < 200; to++ {
		l := straight(200)
		l[0] = api.Instr{Op: zero, A: to}
		want := slices.Compact([]int{1, to})
		if ways, e := flow.Ways(l, 0); e != 0 || !slices.Equal(ways, want) {
			t.Errorf("%v %v, not %v", ways, e, want)
		}
	}
}

// P9.3: what is no index of the code is ErrArg, but only of code without an error of its own.
func TestWaysIndex(t *testing.T) {
	outside := func(n int) []int {
		return []int{-1, -2, -n, -n - 1, n, n + 1, 199, 200, 201, 256, 1 << 32, math.MinInt, math.MaxInt}
	}
	compare := func(l []api.Instr, want api.Errno) {
		t.Helper()
		for _, at := range outside(len(l)) {
			if 0 <= at && at < len(l) {
				continue
			}
			if ways, e := flow.Ways(l, at); e != want || len(ways) > 0 {
				t.Errorf("Ways(%d): %v %v, not %v, of %v", at, ways, e, want, l)
			}
		}
	}
	for _, x := range rows() {
		compare(written(x.text), badArg)
	}
	for _, l := range [][]api.Instr{straight(2), straight(199), straight(200), closed(tower(0, 2, 2, 2, 2))} {
		compare(l, badArg)
	}
	for _, text := range []string{"nop", "jump 0; ret", "again 0; ret", "loop 2; ret", "loop 2; again 0", "loop 2; again 0; again 0; ret", "zero 2; loop 3; again 1; ret"} {
		compare(written(text), badJump)
	}
	for _, l := range [][]api.Instr{nil, {}, {{Op: 33}}, {{Op: ret, B: 1}}, straight(201), closed(written("loop 101; again 0"))} {
		compare(l, badOp)
	}
	for _, text := range []string{"nop", "loop 2; ret", "jump 7; ret"} {
		for at := range written(text) {
			if ways, e := flow.Ways(written(text), at); e != badJump || len(ways) > 0 {
				t.Errorf("Ways(%d): %v %v, of %s", at, ways, e, text)
			}
		}
	}
}

// answers returns what all functions say of l, one behind the other, as numbers, and overwrites what they returned if it is to be spoilt.
func answers(l []api.Instr, spoil bool) []int {
	loops, e := flow.Loops(l)
	all := []int{int(flow.Check(l)), int(e)}
	for i, x := range loops {
		all = append(all, x.From, x.To, x.Turns)
		if spoil {
			loops[i] = flow.Loop{From: -7, To: 300, Turns: 99}
		}
	}
	lists := make([][]int, len(l)+3)
	lists[0], _ = flow.Times(l)
	for k := range lists[1:] {
		lists[k+1], e = flow.Ways(l, k-1)
		all = append(all, int(e))
	}
	for _, x := range lists {
		all = append(all, x...)
	}
	if spoil {
		for _, x := range lists {
			x = x[:cap(x)]
			for i := range x {
				x[i] = -7
			}
		}
		extra := loops[len(loops):cap(loops)]
		for i := range extra {
			extra[i].From = -7
		}
	}
	return all
}

// What is passed stays as it was, the memory behind it too; what is returned is the caller's own, so that writing into it changes nothing later.
func TestMemory(t *testing.T) {
	texts := []string{"nop", "jump 0; ret", "loop 2; ret", "loop 2; loop 2; again 0; again 1; ret", "again 0; pop; ret", "loop 101; again 0; ret"}
	for _, x := range rows() {
		texts = append(texts, x.text)
	}
	for _, text := range texts {
		room := append(written(text), slices.Repeat([]api.Instr{{Op: loop, A: 5, B: 6}}, 10)...)
		l := room[:len(room)-10]
		before := slices.Clone(room)
		first := answers(l, true)
		if second := answers(l, true); !slices.Equal(first, second) {
			t.Errorf("%v, then %v, of %s", first, second, text)
		}
		if third := answers(written(text), false); !slices.Equal(first, third) {
			t.Errorf("%v, of a copy %v, of %s", first, third, text)
		}
		if !slices.Equal(room, before) {
			t.Errorf("%v became %v", before, room)
		}
	}
}

// No two answers share memory: what is written into one doesn't show in the other.
func TestShare(t *testing.T) {
	for _, x := range rows() {
		l := written(x.text)
		kept, _ := flow.Loops(l)
		times, _ := flow.Times(l)
		var ways [][]int
		for at := range l {
			w, _ := flow.Ways(l, at)
			ways = append(ways, w)
		}
		answers(l, true)
		if !slices.Equal(kept, x.loops) || !slices.Equal(times, x.times) || !slices.EqualFunc(ways, x.ways, slices.Equal) {
			t.Errorf("%v %v %v, of %s", kept, times, ways, x.text)
		}
	}
}
