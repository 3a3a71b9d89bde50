package machine_test

import (
	"math"
	"slices"
	"strconv"
	"strings"
	"testing"

	"capstan/api"
	"capstan/module"
	"capstan/sample"
)

// wide are numbers that are no indexes, some of them because of their upper half alone.
var wide = []int{math.MinInt, math.MinInt + 1, -1 << 32, -1<<32 + 1, -256, -2, -1, 255, 256, 257, 1 << 16, 1 << 32, 1<<32 + 1, math.MaxInt - 1, math.MaxInt}

// constants are 0 to 9, and behind them values of which the texts of these tests tell by their index.
func constants() []api.Value {
	return append(constantsBelow(10), n(-1), p(1, 2), p(3, -4), ref(0), ref(1), ref(7), n(math.MaxInt64), n(math.MinInt64))
}

// method returns a method of these kinds, whose result is an integer.
func method(args, locals, text string) api.Method {
	return api.Method{Args: sample.Kinds(args), Locals: sample.Kinds(locals), Result: 1, Code: sample.Code(text)}
}

// pairing returns the method, but its result is a pair.
func pairing(x api.Method) api.Method {
	x.Result = 2
	return x
}

// asked returns the question what the first of these methods does with these arguments, at the greatest limits, where the globals are 10 and 3 - 4i.
func asked(args []api.Value, l ...api.Method) question {
	initial := []api.Value{n(77), p(0, 1)}
	return question{
		m:       api.Module{Globals: initial, Pool: constants(), Methods: l, Migrate: -1},
		args:    args,
		globals: []api.Value{n(10), p(3, -4)},
		limit:   api.Cert{Fuel: mostFuel, Stack: mostStack, Heap: mostHeap},
	}
}

// coded returns the question what code does in a method without locals.
func coded(text string) question { return asked(nil, method("", "", text)) }

// with returns the text with a number in place of each question mark.
func with(text string, number int) string {
	return strings.ReplaceAll(text, "?", strconv.Itoa(number))
}

// pooled returns the question what code does in a method without locals, where these are the constants.
func pooled(text string, l ...api.Value) question {
	q := coded(text)
	q.m.Pool = l
	return q
}

// constantsBelow returns the integers from 0 on below k.
func constantsBelow(k int64) []api.Value {
	var l []api.Value
	for x := range k {
		l = append(l, n(x))
	}
	return l
}

// of returns the question what an instruction does with these values, and then a method whose result is an integer, or a pair.
func of(result uint8, i api.Instr, l ...api.Value) question {
	q := pooled("", l...)
	x := &q.m.Methods[0]
	x.Result = result
	for k := range l {
		x.Code = append(x.Code, api.Instr{Op: api.OpConst, A: k})
	}
	x.Code = append(x.Code, i, api.Instr{Op: api.OpRet})
	return q
}

// limited returns the question with these limits.
func (q question) limited(fuel, stack, heap int) question {
	q.limit = api.Cert{Fuel: fuel, Stack: stack, Heap: heap}
	return q
}

// changed returns the question with a change, in memory of its own.
func (q question) changed(change func(q *question)) question {
	q.m, q.args, q.globals = module.Copy(q.m), slices.Clone(q.args), slices.Clone(q.globals)
	change(&q)
	return q
}

// compare holds what the machine answers against the model, and returns it.
func compare(t *testing.T, q question) answer {
	t.Helper()
	got, want := q.ask(), q.expect()
	if !got.same(want) {
		t.Fatalf("%v, not %v, of %v", got, want, q)
	}
	return got
}

// compareOK holds the answer against the model, and that it is no error.
func compareOK(t *testing.T, q question) answer {
	t.Helper()
	got := compare(t, q)
	if got.e != 0 {
		t.Errorf("%d, of %v", got.e, q)
	}
	return got
}

// gives holds the result of the question, what is used, and that the globals stay as they are.
func gives(t *testing.T, q question, result api.Value, used api.Cert) {
	t.Helper()
	if got := compare(t, q); !got.same(answer{q.globals, api.Outcome{Result: result}, used, 0}) {
		t.Errorf("%v, not %v with %v, of %v", got, result, used, q)
	}
}

// returns holds the result of the question alone.
func returns(t *testing.T, q question, result api.Value) {
	t.Helper()
	if got := compare(t, q); got.e != 0 || got.out != (api.Outcome{Result: result}) {
		t.Errorf("%v, not %v, of %v", got, result, q)
	}
}

// traps holds the trap of the question, what is used, and that the globals stay as they are.
func traps(t *testing.T, q question, number int, used api.Cert) {
	t.Helper()
	if got := compare(t, q); !got.same(answer{q.globals, api.Outcome{Trap: number}, used, 0}) {
		t.Errorf("%v, not the trap %d with %v, of %v", got, number, used, q)
	}
}

// catches holds the trap of the question alone.
func catches(t *testing.T, q question, number int) {
	t.Helper()
	if got := compare(t, q); got.e != 0 || got.out != (api.Outcome{Trap: number}) {
		t.Errorf("%v, not the trap %d, of %v", got, number, q)
	}
}

// fails holds the error of the question.
func fails(t *testing.T, q question, e api.Errno) {
	t.Helper()
	if got := compare(t, q); !got.same(answer{e: e}) {
		t.Errorf("%v, not the error %d, of %v", got, e, q)
	}
}

// leaves holds the globals behind the call.
func leaves(t *testing.T, q question, globals ...api.Value) {
	t.Helper()
	if got := compare(t, q); got.e != 0 || !slices.Equal(got.after, globals) {
		t.Errorf("%v, not %v, of %v", got, globals, q)
	}
}
