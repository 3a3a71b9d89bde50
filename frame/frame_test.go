package frame_test

import (
	"math"
	"reflect"
	"slices"
	"strings"
	"testing"

	"capstan/api"
	"capstan/frame"
	"capstan/sample"
)

// The limits and kinds are what the document says.
func TestLimits(t *testing.T) {
	if api.MaxLocals != mostLocals || api.MaxStack != mostStack {
		t.Errorf("%d %d", api.MaxLocals, api.MaxStack)
	}
	if api.KdNone != none || api.KdInt != integer || api.KdPair != pairKind || api.KdRef != array {
		t.Errorf("%d %d %d %d", api.KdNone, api.KdInt, api.KdPair, api.KdRef)
	}
}

// The chapter's example.
func TestExample(t *testing.T) {
	five := api.Value{Kind: integer, A: 5}
	f, e := frame.New([]uint8{integer}, []uint8{pairKind}, []api.Value{five})
	if e != 0 {
		t.Fatalf("%d", e)
	}
	if v, is := f.Get(0); v != five || !is {
		t.Errorf("%v %v", v, is)
	}
	if v, is := f.Get(1); v != (api.Value{Kind: pairKind}) || !is {
		t.Errorf("%v %v", v, is)
	}
	if f.Set(1, five) {
		t.Errorf("set")
	}
	f.Begin(3, 2)
	for _, want := range [][2]bool{{true, true}, {false, true}, {false, false}} {
		if more, is := f.Again(3); more != want[0] || is != want[1] {
			t.Errorf("%v %v, not %v", more, is, want)
		}
	}
}

// fresh holds that the frame is new: its stack is empty, its instruction index 0, and no loop has turns left.
func (h held) fresh() {
	h.Helper()
	h.look()
	if len(h.model.stack) != 0 || h.model.place != 0 || len(h.model.loops) != 0 {
		h.Fatalf("%v", h.model)
	}
	h.pop(none)
	for n := range 20 {
		h.again(n)
	}
}

// P16.1: frames of each number of arguments and of other locals, up to more than there may be.
func TestNumbers(t *testing.T) {
	made := 0
	for n := range mostLocals + 3 {
		for k := range mostLocals + 3 {
			args, locals := strings.Repeat("npr", n)[:n], strings.Repeat("rnp", k)[:k]
			h, is := try(t, sample.Kinds(args), sample.Kinds(locals), sample.Values(args))
			if is != (n+k <= mostLocals) {
				t.Fatalf("%d %d", n, k)
			}
			if is {
				h.fresh()
				made++
			}
		}
	}
	if made != 153 {
		t.Errorf("%d", made)
	}
	for _, n := range []int{255, 256, 257, 1<<16 + 1, 1 << 20} {
		kinds, l := slices.Repeat([]uint8{integer}, n), slices.Repeat([]api.Value{{Kind: integer}}, n)
		for _, many := range [][2][]uint8{{kinds, nil}, {nil, kinds}, {kinds[:1], kinds}, {kinds, kinds[:1]}, {kinds, kinds}} {
			if _, is := try(t, many[0], many[1], l[:len(many[0])]); is {
				t.Errorf("%d", n)
			}
		}
	}
}

// P16.1: no kinds, as nil and as empty lists.
func TestNoLocals(t *testing.T) {
	for _, kinds := range [][]uint8{nil, {}} {
		for _, l := range [][]api.Value{nil, {}} {
			for _, others := range [][]uint8{nil, {}} {
				h, is := try(t, kinds, others, l)
				if !is {
					t.Fatalf("%v %v %v", kinds, others, l)
				}
				h.fresh()
			}
		}
	}
}

// P16.1: fewer arguments than kinds, and more.
func TestNumberOfArguments(t *testing.T) {
	for n := range 6 {
		for k := range 6 {
			kinds, l := slices.Repeat([]uint8{pairKind}, n), slices.Repeat([]api.Value{{Kind: pairKind, A: 1}}, k)
			for _, others := range []string{"", "n", "pprn"} {
				if _, is := try(t, kinds, sample.Kinds(others), l); is != (n == k) {
					t.Errorf("%d %d", n, k)
				}
			}
		}
	}
}

// P16.1: an argument of another kind, at each place, and whatever else stands in it.
func TestOtherKind(t *testing.T) {
	for n := 1; n <= mostLocals; n++ {
		kinds := sample.Kinds(strings.Repeat("nprr", n)[:n])
		for i, want := range kinds {
			for kind := range 256 {
				l := sample.Values(strings.Repeat("nprr", n)[:n])
				l[i].Kind = uint8(kind)
				if _, is := try(t, kinds, nil, l); is != (uint8(kind) == want) {
					t.Fatalf("%d %d %d", n, i, kind)
				}
			}
		}
	}
	for _, v := range values {
		for kind := range 6 {
			h, is := try(t, []uint8{uint8(kind)}, []uint8{integer}, []api.Value{v})
			if is != (uint8(kind) == v.Kind) {
				t.Fatalf("%d %v", kind, v)
			}
			if is {
				h.fresh()
			}
		}
	}
}

// P16.1: each kind that is none of the three, at each place among the arguments and among the locals.
func TestNoKind(t *testing.T) {
	for kind := range 256 {
		may := exists(uint8(kind))
		for n := 1; n <= mostLocals; n++ {
			kinds := slices.Repeat([]uint8{integer}, n)
			l := slices.Repeat([]api.Value{{Kind: integer, A: 3}}, n)
			for _, i := range []int{0, n / 2, n - 1} {
				kinds[i], l[i].Kind = uint8(kind), uint8(kind)
				if _, is := try(t, kinds, nil, l); is != may {
					t.Fatalf("argument %d of %d: %d", i, n, kind)
				}
				if _, is := try(t, nil, kinds, nil); is != may {
					t.Fatalf("local %d of %d: %d", i, n, kind)
				}
				kinds[i], l[i].Kind = integer, integer
			}
		}
	}
}

// P16.1: with several faults at once the error is the same.
func TestSeveralFaults(t *testing.T) {
	for _, args := range []string{"", "o", "n", "no", "nppppppppppppppp", "npppppppppppppppr"} {
		for _, l := range []string{"", "o", "p", "n", "np", "nppppppppppppppp"} {
			for _, others := range []string{"", "o", "ro", "r", "rrrrrrrrrrrrrrrr", "rrrrrrrrrrrrrrrro"} {
				if h, is := try(t, sample.Kinds(args), sample.Kinds(others), sample.Values(l)); is {
					h.fresh()
				}
			}
		}
	}
}

// P16.1: what is handed to New stays as it was, capacity included, and is not kept.
func TestPassed(t *testing.T) {
	for _, c := range []struct{ args, locals, l string }{
		{"", "", ""}, {"n", "p", "n"}, {"npr", "", "npr"}, {"", "rpn", ""}, {"nnnnpppp", "rrrrnnnn", "nnnnpppp"},
		{"n", "p", "p"}, {"n", "o", "n"}, {"n", "", "nn"}, {"nnnnnnnn", "ppppppppp", "nnnnnnnn"},
	} {
		args, locals := sample.Roomy(sample.Kinds(c.args), 9, 8, 7), sample.Roomy(sample.Kinds(c.locals), 6, 5, 4)
		l := sample.Roomy(sample.Values(c.l), sample.Values("por")...)
		kept := [][]uint8{slices.Clone(args[:cap(args)]), slices.Clone(locals[:cap(locals)])}
		values := slices.Clone(l[:cap(l)])
		h, is := try(t, args, locals, l)
		if is {
			h.push(api.Value{Kind: array, A: 77})
			for i := range h.model.locals {
				h.set(i, api.Value{Kind: h.model.locals[i].Kind, A: 88})
			}
			h.begin(0, 2)
			h.again(0)
		}
		if !slices.Equal(args[:cap(args)], kept[0]) || !slices.Equal(locals[:cap(locals)], kept[1]) || !slices.Equal(l[:cap(l)], values) {
			t.Errorf("%v has changed, into %v %v %v", c, args, locals, l)
		}
		if is {
			sample.Spoil(args, 99)
			sample.Spoil(locals, 99)
			sample.Spoil(l, api.Value{Kind: 99, A: 99})
			h.whole()
			h.again(0)
		}
	}
}

// P16.2: each index, below 0 and behind the last too, and values of each kind.
func TestGetSet(t *testing.T) {
	for _, c := range [][2]string{{"", ""}, {"n", ""}, {"", "n"}, {"npr", "rpn"}, {"nnnn", "pppprrrrpprr"}, {"nprnprnprnprnprn", ""}, {"", "nprnprnprnprnprn"}} {
		h, set := of(t, c[0], c[1]), 0
		h.push(api.Value{Kind: integer, A: 1}) // no index of a local reaches the stack
		h.push(api.Value{Kind: pairKind, A: 2})
		indexes := slices.Clone(wide)
		for i := range mostLocals {
			indexes = append(indexes, i)
		}
		for _, i := range indexes {
			h.get(i)
			for k, v := range values {
				v.A += int64(k)
				if h.set(i, v) {
					set++
				}
				h.look()
			}
			for _, kind := range odd {
				if h.set(i, api.Value{Kind: kind, A: 1}) {
					t.Fatalf("set to the kind %d", kind)
				}
				h.look()
			}
		}
		if n := len(c[0] + c[1]); set < 4*n {
			t.Errorf("%d of %d", set, n)
		}
		h.whole()
	}
}

// P16.2: what is refused changes no local, though the value differs in more than the kind.
func TestSetRefused(t *testing.T) {
	h := of(t, "npr", "npr")
	for i := range 6 {
		for _, v := range values {
			if v.Kind == h.model.locals[i].Kind {
				continue
			}
			if h.set(i, v) || h.set(i, api.Value{}) {
				t.Fatalf("set %d to %v", i, v)
			}
			h.whole()
		}
	}
}

// P16.3: the stack up to MaxStack, whatever the number of locals, and one value more.
func TestFull(t *testing.T) {
	for n := range mostLocals + 1 {
		h := of(t, "", strings.Repeat("npr", n)[:n])
		for k := range mostStack - n {
			if !h.push(values[k%len(values)]) {
				t.Fatalf("%d of %d", k, n)
			}
			h.look()
		}
		for _, v := range values {
			if h.push(v) {
				t.Fatalf("pushed %v onto a full stack", v)
			}
			h.look()
		}
		h.whole()
		h.pop(none)
		if !h.push(values[0]) || h.push(values[0]) {
			t.Fatalf("%d", h.model.size())
		}
		h.whole()
	}
}

// P16.3: Push of each kind, on an empty stack and on others.
func TestPushKinds(t *testing.T) {
	h := of(t, "n", "p")
	for kind := range 256 {
		v := api.Value{Kind: uint8(kind), A: 7, B: 8}
		if h.push(v) != exists(uint8(kind)) {
			t.Fatalf("%v", v)
		}
		h.whole()
	}
	for _, kind := range odd {
		h := of(t, "", "")
		if h.push(api.Value{Kind: kind}) || h.push(api.Value{Kind: kind, A: 1}) {
			t.Fatalf("%d", kind)
		}
		h.whole()
	}
}

// P16.3: values come off as they were pushed, whatever stands in them.
func TestValuesKept(t *testing.T) {
	h := of(t, "", "")
	for _, v := range values {
		h.push(v)
		if got, is := h.frame.Top(); got != v || !is {
			t.Errorf("%v %v, not %v", got, is, v)
		}
		h.look()
	}
	for i := range values {
		want := values[len(values)-1-i]
		if got, is := h.pop(want.Kind); got != want || !is {
			t.Errorf("%v %v, not %v", got, is, want)
		}
		h.look()
	}
}

// P16.3: Pop of each kind, of an empty stack and of one with each kind on top.
func TestPopKinds(t *testing.T) {
	for kind := range 256 {
		h := of(t, "npr", "")
		if _, is := h.pop(uint8(kind)); is {
			t.Fatalf("%d popped from an empty stack", kind)
		}
		h.look()
		for _, v := range values {
			h := of(t, "npr", "")
			h.push(api.Value{Kind: integer, A: 21})
			h.push(api.Value{Kind: pairKind, A: 22})
			h.push(api.Value{Kind: array, A: 23})
			h.push(v)
			got, is := h.pop(uint8(kind))
			if want := kind == int(none) || kind == int(v.Kind); is != want || is && got != v {
				t.Fatalf("%v %v, of %d from %v", got, is, kind, v)
			}
			h.whole()
		}
	}
}

// P16.3: an emptied stack is empty.
func TestEmptied(t *testing.T) {
	h := of(t, "n", "n")
	for n := range 5 {
		for range n {
			h.push(api.Value{Kind: integer, A: 4})
		}
		for range n + 2 {
			h.pop(integer)
			h.look()
		}
		for _, kind := range []uint8{none, integer, pairKind, array} {
			if v, is := h.pop(kind); is || v != (api.Value{}) {
				t.Fatalf("%v %v", v, is)
			}
		}
		if v, is := h.frame.Top(); is || v != (api.Value{}) {
			t.Fatalf("%v %v", v, is)
		}
	}
}

// P16.3: Top changes nothing.
func TestTop(t *testing.T) {
	h := of(t, "n", "r")
	for k := range 6 {
		for range 5 {
			h.look()
		}
		h.push(values[k])
	}
	h.whole()
}

// P16.4: places are any numbers.
func TestPlace(t *testing.T) {
	for _, h := range []held{of(t, "", ""), of(t, "n", "p")} {
		h.look()
		for _, n := range append([]int{0, 1, 7, 199, 200, 201, -200}, wide...) {
			h.place(n)
			h.push(values[0])
			h.begin(n, 3)
			h.again(n)
			h.whole()
		}
		h.place(0)
		h.whole()
	}
}

// P16.4: sizes, with each number of locals and of values.
func TestSize(t *testing.T) {
	for n := range mostLocals + 1 {
		for k := range mostLocals - n + 1 {
			h := of(t, strings.Repeat("n", n), strings.Repeat("p", k))
			for values := range 4 {
				if size := h.frame.Size(); size != n+k+values {
					t.Fatalf("%d, not %d + %d + %d", size, n, k, values)
				}
				h.push(api.Value{Kind: array})
			}
		}
	}
}

// P16.5: loops of any number, with turns below 0, of 0, of 1 and of many.
func TestBeginAgain(t *testing.T) {
	numbers := append([]int{0, 1, 3, 199}, wide...)
	for _, turns := range []int{math.MinInt, math.MinInt + 1, -1 << 32, -100, -1, 0, 1, 2, 3, 100, 101, 1 << 32, 1<<32 + 1, math.MaxInt - 1, math.MaxInt} {
		h := of(t, "n", "")
		for _, n := range numbers {
			h.again(n)
			h.begin(n, turns)
			more, is := h.again(n)
			if more != (turns > 1) || is != (turns > 0) {
				t.Fatalf("%v %v, of %d turns", more, is, turns)
			}
		}
		for range 3 {
			for _, n := range numbers {
				h.again(n)
			}
		}
		h.whole()
	}
}

// P16.5: Again of a loop that was never begun, whose turns are over, or that was begun again.
func TestOver(t *testing.T) {
	for first := -1; first < 5; first++ {
		for taken := range 6 {
			for second := -1; second < 5; second++ {
				h := of(t, "", "p")
				h.again(7)
				h.begin(7, first)
				h.begin(8, 2)
				for range taken {
					h.again(7)
					h.again(9)
				}
				h.begin(7, second)
				for range 6 {
					h.again(7)
					h.again(6)
				}
				h.again(8)
				h.again(8)
				h.again(8)
				h.whole()
			}
		}
	}
}

// P16.5: Begin sets what is left, whatever was left before, and ends a loop with turns below 1.
func TestBegunAgain(t *testing.T) {
	h := of(t, "", "")
	h.begin(1, 50)
	for _, turns := range []int{3, 1, 9, 0, 2, -5, 4, math.MinInt, 1} {
		h.begin(1, turns)
		if more, is := h.again(1); more != (turns > 1) || is != (turns > 0) {
			t.Errorf("%v %v, of %d", more, is, turns)
		}
	}
	if more, is := h.again(1); more || is {
		t.Errorf("%v %v", more, is)
	}
}

// nothing holds that every method of f answers as of no frame, and that the next ones do too.
func nothing(t *testing.T, f *frame.Frame) {
	t.Helper()
	for _, n := range append([]int{0, 1, 2}, wide...) {
		for _, v := range append([]api.Value{{}}, values...) {
			if f.Set(n, v) || f.Push(v) {
				t.Fatalf("%d %v", n, v)
			}
			if got, is := f.Pop(v.Kind); got != (api.Value{}) || is {
				t.Fatalf("Pop: %v %v", got, is)
			}
			if got, is := f.Get(n); got != (api.Value{}) || is {
				t.Fatalf("Get of %d: %v %v", n, got, is)
			}
			if got, is := f.Top(); got != (api.Value{}) || is {
				t.Fatalf("Top: %v %v", got, is)
			}
		}
		f.Go(n)
		f.Begin(n, 3)
		f.Begin(0, n)
		if more, is := f.Again(n); more || is {
			t.Fatalf("Again of %d: %v %v", n, more, is)
		}
		if more, is := f.Again(0); more || is {
			t.Fatalf("Again of 0: %v %v", more, is)
		}
		if f.Place() != 0 || f.Size() != 0 {
			t.Fatalf("%d %d", f.Place(), f.Size())
		}
	}
}

// A nil *Frame, and a Frame that New did not return, are no frames: each method, again behind all others.
func TestNoFrame(t *testing.T) {
	var absent *frame.Frame
	var plain frame.Frame
	list := make([]frame.Frame, 2)
	for range 2 {
		for _, f := range []*frame.Frame{absent, new(frame.Frame), {}, &plain, &list[1]} {
			nothing(t, f)
			if f != nil && !reflect.DeepEqual(*f, frame.Frame{}) {
				t.Errorf("changed, into %v", *f)
			}
		}
	}
	if failed, e := frame.New(nil, []uint8{none}, nil); e != badArg {
		t.Errorf("%d", e)
	} else {
		nothing(t, failed)
	}
}

// A method on no frame answers so as the very first call on it, too.
func TestFirstCall(t *testing.T) {
	one := api.Value{Kind: integer, A: 1}
	calls := []func(f *frame.Frame) bool{
		func(f *frame.Frame) bool { _, is := f.Get(0); return is },
		func(f *frame.Frame) bool { return f.Set(0, one) },
		func(f *frame.Frame) bool { return f.Push(one) },
		func(f *frame.Frame) bool { _, is := f.Pop(none); return is },
		func(f *frame.Frame) bool { _, is := f.Top(); return is },
		func(f *frame.Frame) bool { return f.Size() != 0 },
		func(f *frame.Frame) bool { return f.Place() != 0 },
		func(f *frame.Frame) bool { f.Go(5); return f.Place() != 0 },
		func(f *frame.Frame) bool { f.Begin(0, 5); _, is := f.Again(0); return is },
		func(f *frame.Frame) bool { more, is := f.Again(0); return more || is },
	}
	for k, call := range calls {
		if call(nil) || call(new(frame.Frame)) {
			t.Errorf("%d", k)
		}
	}
}

// A copy of a Frame is one that New did not return; the frame that it was copied from stays as it was.
func TestCopied(t *testing.T) {
	h := of(t, "np", "r")
	h.push(values[1])
	h.place(4)
	h.begin(2, 4)
	copied := *h.frame
	nothing(t, &copied)
	h.whole()
	other := of(t, "n", "")
	other.push(values[2])
	*other.frame = *h.frame
	nothing(t, other.frame)
	h.whole()
	h.push(values[6])
	h.again(2)
	h.set(0, values[3])
	h.whole()
	nothing(t, &copied)
}
