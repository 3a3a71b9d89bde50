package frame_test

import (
	"math"
	"slices"
	"testing"

	"capstan/api"
	"capstan/frame"
	"capstan/sample"
)

// badArg is the error as the chapter numbers it.
const badArg api.Errno = 2

// The limits as the document says them.
const (
	mostLocals = 16
	mostStack  = 256
)

// The kinds as the document numbers them.
const (
	none uint8 = iota
	integer
	pairKind
	array
)

// odd are kinds that no value on a frame is of.
var odd = []uint8{none, 4, 5, 16, 127, 128, 129, 130, 131, 254, 255}

// wide are numbers that are no indexes of locals, some of them because of their upper half alone.
var wide = []int{math.MinInt, math.MinInt + 1, -1 << 32, -1<<32 + 1, -mostLocals, -2, -1, mostLocals, mostLocals + 1, 255, 256, 1 << 16, 1 << 32, 1<<32 + 1, math.MaxInt - 1, math.MaxInt}

// values are values of each kind that there is, some of them such as no instruction makes: a frame looks at the kind alone.
var values = []api.Value{
	{Kind: integer}, {Kind: integer, A: 5}, {Kind: integer, A: math.MinInt64}, {Kind: integer, A: math.MaxInt64}, {Kind: integer, A: -1, B: 3},
	{Kind: pairKind}, {Kind: pairKind, A: 5}, {Kind: pairKind, A: 1, B: 2}, {Kind: pairKind, A: math.MaxInt64, B: math.MinInt64},
	{Kind: array}, {Kind: array, A: 5}, {Kind: array, A: -1}, {Kind: array, A: 1, B: 2},
}

// loop is one with turns left.
type loop struct{ number, turns int }

// model is a frame as the chapter describes it.
type model struct {
	locals, stack []api.Value // the last one of the stack is on top
	place         int
	loops         []loop
}

// exists tells whether it is one of the three kinds.
func exists(kind uint8) bool { return kind >= integer && kind <= array }

// describe returns the model of a new frame, or nil if there is none.
func describe(args, locals []uint8, l []api.Value) *model {
	if len(args) != len(l) || len(args)+len(locals) > mostLocals || !all(args, exists) || !all(locals, exists) {
		return nil
	}
	m := &model{}
	for i, v := range l {
		if v.Kind != args[i] {
			return nil
		}
		m.locals = append(m.locals, v)
	}
	for _, kind := range locals {
		m.locals = append(m.locals, api.Value{Kind: kind})
	}
	return m
}

// all tells whether each of the list is as told.
func all[T any](l []T, is func(T) bool) bool {
	return !slices.ContainsFunc(l, func(x T) bool { return !is(x) })
}

// size returns what Size returns.
func (m *model) size() int { return len(m.locals) + len(m.stack) }

// get returns what Get returns.
func (m *model) get(i int) (api.Value, bool) {
	for k, v := range m.locals {
		if k == i {
			return v, true
		}
	}
	return api.Value{}, false
}

// set returns what Set returns.
func (m *model) set(i int, v api.Value) bool {
	old, is := m.get(i)
	if !is || old.Kind != v.Kind {
		return false
	}
	m.locals[i] = v
	return true
}

// push returns what Push returns.
func (m *model) push(v api.Value) bool {
	if !exists(v.Kind) || m.size() == mostStack {
		return false
	}
	m.stack = append(m.stack, v)
	return true
}

// top returns what Top returns.
func (m *model) top() (v api.Value, is bool) {
	for _, v = range m.stack {
		is = true
	}
	return v, is
}

// pop returns what Pop returns.
func (m *model) pop(kind uint8) (api.Value, bool) {
	v, is := m.top()
	if !is || kind != none && kind != v.Kind {
		return api.Value{}, false
	}
	m.stack = m.stack[:len(m.stack)-1]
	return v, true
}

// begin does what Begin does.
func (m *model) begin(number, turns int) {
	m.loops = slices.DeleteFunc(m.loops, func(l loop) bool { return l.number == number })
	if turns > 0 {
		m.loops = append(m.loops, loop{number, turns})
	}
}

// again returns what Again returns.
func (m *model) again(number int) (bool, bool) {
	i := slices.IndexFunc(m.loops, func(l loop) bool { return l.number == number })
	if i < 0 {
		return false, false
	}
	turns := m.loops[i].turns - 1
	m.begin(number, turns)
	return turns > 0, true
}

// held is a frame, and the model that describes it.
type held struct {
	*testing.T
	frame *frame.Frame
	model *model
}

// try makes a frame of these, holds the error, and returns the frame if there is one.
func try(t *testing.T, args, locals []uint8, l []api.Value) (held, bool) {
	t.Helper()
	f, e := frame.New(args, locals, l)
	m := describe(args, locals, l)
	if m == nil && (f != nil || e != badArg) || m != nil && (f == nil || e != 0) {
		t.Fatalf("%v %d, of %v %v %v", f, e, args, locals, l)
	}
	return held{t, f, m}, m != nil
}

// of returns a frame with arguments and other locals of the kinds that are written so, and its model; the arguments are 10, 11 and so on.
func of(t *testing.T, args, locals string) held {
	t.Helper()
	l := sample.Values(args)
	for i := range l {
		l[i].A = int64(10 + i)
	}
	h, is := try(t, sample.Kinds(args), sample.Kinds(locals), l)
	if !is {
		t.Fatalf("%s %s", args, locals)
	}
	return h
}

// get holds what Get returns.
func (h held) get(i int) {
	h.Helper()
	want, bad := h.model.get(i)
	if v, is := h.frame.Get(i); v != want || is != bad {
		h.Fatalf("Get of %d: %v %v, not %v %v", i, v, is, want, bad)
	}
}

// set holds what Set returns, and returns it.
func (h held) set(i int, v api.Value) bool {
	h.Helper()
	want := h.model.set(i, v)
	if is := h.frame.Set(i, v); is != want {
		h.Fatalf("Set of %d to %v: %v", i, v, is)
	}
	return want
}

// push holds what Push returns, and returns it.
func (h held) push(v api.Value) bool {
	h.Helper()
	want := h.model.push(v)
	if is := h.frame.Push(v); is != want {
		h.Fatalf("Push of %v at size %d: %v", v, h.model.size(), is)
	}
	return want
}

// pop holds what Pop returns, and returns it.
func (h held) pop(kind uint8) (api.Value, bool) {
	h.Helper()
	want, bad := h.model.pop(kind)
	v, is := h.frame.Pop(kind)
	if v != want || is != bad {
		h.Fatalf("Pop of %d: %v %v, not %v %v", kind, v, is, want, bad)
	}
	return v, is
}

// place sets the instruction index, and holds it.
func (h held) place(n int) {
	h.Helper()
	h.frame.Go(n)
	h.model.place = n
	if got := h.frame.Place(); got != n {
		h.Fatalf("%d, not %d", got, n)
	}
}

// begin sets the turns of a loop.
func (h held) begin(number, turns int) {
	h.frame.Begin(number, turns)
	h.model.begin(number, turns)
}

// again holds what Again returns, and returns it.
func (h held) again(number int) (bool, bool) {
	h.Helper()
	want, bad := h.model.again(number)
	more, is := h.frame.Again(number)
	if more != want || is != bad {
		h.Fatalf("Again of %d: %v %v, not %v %v", number, more, is, want, bad)
	}
	return more, is
}

// look holds what can be asked of the frame without changing it.
func (h held) look() {
	h.Helper()
	for i := -1; i <= mostLocals; i++ {
		h.get(i)
	}
	want, bad := h.model.top()
	if v, is := h.frame.Top(); v != want || is != bad {
		h.Fatalf("Top: %v %v, not %v %v", v, is, want, bad)
	}
	if n := h.frame.Size(); n != h.model.size() {
		h.Fatalf("Size: %d, not %d", n, h.model.size())
	}
	if n := h.frame.Place(); n != h.model.place {
		h.Fatalf("Place: %d, not %d", n, h.model.place)
	}
}

// whole holds the whole stack, popped and pushed again, and whatever look holds.
func (h held) whole() {
	h.Helper()
	h.look()
	kept := slices.Clone(h.model.stack)
	for range kept {
		h.pop(none)
	}
	h.look()
	for _, v := range kept {
		h.push(v)
	}
	h.look()
}
