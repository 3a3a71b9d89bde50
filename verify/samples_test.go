package verify_test

import (
	"slices"
	"testing"

	"capstan/api"
	"capstan/calls"
	"capstan/cost"
	"capstan/module"
	"capstan/pure"
	"capstan/sample"
	"capstan/types"
	"capstan/verify"
)

// The errors, as the chapters number them.
const (
	badLong   api.Errno = 3
	badShort  api.Errno = 10
	badValue  api.Errno = 30
	badOp     api.Errno = 40
	badPool   api.Errno = 60
	badMethod api.Errno = 70
	badModule api.Errno = 80
	badJump   api.Errno = 90
	badType   api.Errno = 100
	badStack  api.Errno = 101
	badCycle  api.Errno = 110
	badCost   api.Errno = 120
	badPure   api.Errno = 130
)

// method returns a method of these kinds, whose result is an integer; it declares as much as it may.
func method(args, locals, text string) api.Method {
	most := sample.Most()
	return api.Method{Args: sample.Kinds(args), Locals: sample.Kinds(locals), Result: api.KdInt, Fuel: most.Fuel, Stack: most.Stack, Heap: most.Heap, Code: sample.Code(text)}
}

// plain returns a method without locals.
func plain(text string) api.Method { return method("", "", text) }

// reading returns the method, declared to change nothing.
func reading(x api.Method) api.Method {
	x.Reads = true
	return x
}

// with returns a module of these methods, with globals np and constants np; none migrates.
func with(l ...api.Method) api.Module {
	return api.Module{Globals: sample.Values("np"), Pool: sample.Values("np"), Methods: l, Migrate: -1}
}

// small is the example of chapter 8.
func small() api.Module {
	x := api.Method{Result: api.KdInt, Fuel: 2, Stack: 1, Code: sample.Code("load 0; ret")}
	return api.Module{Globals: sample.Values("n"), Methods: []api.Method{x}, Migrate: -1}
}

// sound returns a module of five methods without an error, which declare just what they take. The methods 1 and 3 are called, 2 migrates, and 0 and 1 change nothing and are declared so.
func sound() api.Module {
	m := with(
		reading(plain("call 1; ret")),
		reading(plain("loop 3; const 0; new 4; pop; again 0; load 0; ret")),
		method("np", "r", "get 0; store 0; get 1; store 1; const 0; ret"),
		method("r", "n", "get 0; len; zero 5; load 0; ret; trap 7"),
		method("rn", "p", "loop 2; get 0; call 3; set 1; again 0; get 1; ret"),
	)
	m.Migrate = 2
	return sample.Declaring(m, soundCerts()...)
}

// soundCerts returns the certificates of sound, counted by hand.
func soundCerts() []api.Cert {
	return []api.Cert{{Fuel: 17, Stack: 1, Heap: 12}, {Fuel: 15, Stack: 1, Heap: 12}, {Fuel: 6, Stack: 4}, {Fuel: 6, Stack: 3}, {Fuel: 23, Stack: 6}}
}

// changed returns a copy of m with a change.
func changed(m api.Module, change func(m *api.Module)) api.Module {
	m = module.Copy(m)
	change(&m)
	return m
}

// replaced returns a copy of m with another method k.
func replaced(m api.Module, k int, x api.Method) api.Module {
	return changed(m, func(m *api.Module) { m.Methods[k] = x })
}

// extended returns a copy of m with one more method at the end.
func extended(m api.Module, x api.Method) api.Module {
	return changed(m, func(m *api.Module) { m.Methods = append(m.Methods, x) })
}

// encoded returns the encoding of m, which has one.
func encoded(t *testing.T, m api.Module) []byte {
	t.Helper()
	b, e := module.Bytes(m)
	if e != 0 {
		t.Fatalf("%d, of %v", e, m)
	}
	return b
}

// verdict is what the chapter says of a module: by which check an error is found, or 0, the error, the method that is blamed, or -1, and the certificates.
type verdict struct {
	check int
	e     api.Errno
	blame int
	certs []api.Cert
}

// judged returns what the chapter says of m.
func judged(m api.Module) verdict {
	if e := module.May(m); e != 0 {
		return verdict{check: 1, e: e, blame: -1}
	}
	if m.Migrate >= 0 {
		for _, kind := range m.Methods[m.Migrate].Args {
			if kind == 3 {
				return verdict{check: 2, e: badMethod, blame: -1}
			}
		}
	}
	for k := range m.Methods {
		if e := types.Check(m, k); e != 0 {
			return verdict{check: 3, e: e, blame: k}
		}
	}
	if e := calls.Check(m); e != 0 {
		return verdict{check: 4, e: e, blame: -1}
	}
	certs, e := cost.Costs(m)
	if e != 0 {
		return verdict{check: 5, e: e, blame: -1}
	}
	if e := pure.Check(m); e != 0 {
		return verdict{check: 6, e: e, blame: -1}
	}
	return verdict{blame: -1, certs: certs}
}

// compare holds what all functions tell of m against the chapter's words, and returns what these are. Together with an error all else is to be zero.
func compare(t *testing.T, m api.Module) verdict {
	t.Helper()
	want := judged(m)
	if e := verify.May(m); e != want.e {
		t.Fatalf("May: %d, not %d, of %v", e, want.e, m)
	}
	if certs, e := verify.Accept(m); e != want.e || !slices.Equal(certs, want.certs) {
		t.Fatalf("Accept: %v %d, not %v %d, of %v", certs, e, want.certs, want.e, m)
	}
	if k := verify.Blame(m); k != want.blame {
		t.Fatalf("Blame: %d, not %d, of %v", k, want.blame, m)
	}
	if want.check != 1 {
		compareLoad(t, encoded(t, m))
	}
	return want
}

// compareLoad holds what Load tells of b against the chapter's words, and returns the error that it is to tell.
func compareLoad(t *testing.T, b []byte) api.Errno {
	t.Helper()
	m, e := module.Parse(b)
	var certs []api.Cert
	if e == 0 {
		v := judged(m)
		e, certs = v.e, v.certs
	}
	if e != 0 {
		m = api.Module{}
	}
	w, l, got := verify.Load(b)
	if got != e || !module.Same(w, m) || !slices.Equal(l, certs) {
		t.Fatalf("Load: %v %v %d, not %v %v %d, of %v", w, l, got, m, certs, e, b)
	}
	return e
}

// compareError holds the error of m, the check that finds it and the method that is blamed against what they are to be, and all else against the chapter's words.
func compareError(t *testing.T, m api.Module, check int, e api.Errno, blame int) {
	t.Helper()
	if got := compare(t, m); got.check != check || got.e != e || got.blame != blame {
		t.Errorf("%d, by check %d at %d, not %d, by check %d at %d, of %v", got.e, got.check, got.blame, e, check, blame, m)
	}
}

// compareAccepted holds the certificates of m, which is to be accepted, against what they are to be.
func compareAccepted(t *testing.T, m api.Module, certs ...api.Cert) {
	t.Helper()
	if got := compare(t, m); got.e != 0 || !slices.Equal(got.certs, certs) {
		t.Errorf("%v %d, not %v, of %v", got.certs, got.e, certs, m)
	}
}

// seeds is how many samples are made.
const seeds = 300

// altered returns m with up to three changes, each of which may bring about an error or not.
func altered(m api.Module, d *sample.Dice) api.Module {
	m = module.Copy(m)
	for range 1 + d.Below(3) {
		sample.Pick(d, []func(*api.Module, *sample.Dice){alterCode, alterCode, alterCode, alterCalls, alterHeader, alterNumbers, alterReads, alterWhole})(&m, d)
	}
	return m
}

// someMethod returns a method of m.
func someMethod(m *api.Module, d *sample.Dice) *api.Method {
	return &m.Methods[d.Below(len(m.Methods))]
}

// alterCode changes one instruction.
func alterCode(m *api.Module, d *sample.Dice) {
	x := someMethod(m, d)
	at := d.Below(len(x.Code) + 1)
	other := *someMethod(m, d)
	switch n := d.Below(6); {
	case at == len(x.Code) || n == 0:
		x.Code = slices.Insert(x.Code, at, api.Instr{Op: uint8(d.Below(33)), A: d.Below(9)})
	case n == 1:
		x.Code[at].Op = uint8(d.Below(34))
	case n == 2:
		x.Code[at].A += 1 - 2*d.Below(2)
	case n == 3:
		x.Code[at].A = d.Below(12)
	case n == 4 && len(other.Code) > 0:
		x.Code[at] = sample.Pick(d, other.Code)
	default:
		x.Code = slices.Delete(x.Code, at, at+1)
	}
}

// alterCalls puts a call of some method where it is not reached.
func alterCalls(m *api.Module, d *sample.Dice) {
	x := someMethod(m, d)
	x.Code = append(x.Code, api.Instr{Op: api.OpCall, A: d.Below(len(m.Methods) + 1)}, api.Instr{Op: api.OpTrap})
}

// alterHeader changes a kind, or how many there are.
func alterHeader(m *api.Module, d *sample.Dice) {
	x := someMethod(m, d)
	kind := sample.Pick(d, sample.Kinds("nnpprro"))
	switch d.Below(4) {
	case 0:
		x.Result = kind
	case 1:
		x.Args = append(x.Args, kind)
	case 2:
		x.Locals = append(x.Locals, kind)
	default:
		for k := range x.Args {
			x.Args[k] = kind
		}
	}
}

// alterNumbers changes what is declared.
func alterNumbers(m *api.Module, d *sample.Dice) {
	x := someMethod(m, d)
	*sample.Pick(d, []*int{&x.Fuel, &x.Stack, &x.Heap}) += sample.Pick(d, []int{-1, -1, -1, 1, 1, -5, -1000})
}

// alterReads changes what is declared of changing nothing.
func alterReads(m *api.Module, d *sample.Dice) {
	x := someMethod(m, d)
	x.Reads = !x.Reads
}

// alterWhole changes a part beside the methods, or how many methods there are.
func alterWhole(m *api.Module, d *sample.Dice) {
	switch d.Below(6) {
	case 0:
		m.Migrate = d.Below(len(m.Methods)+2) - 1
	case 1:
		m.Globals = append(m.Globals, api.Value{Kind: sample.Pick(d, sample.Kinds("npr"))})
	case 2:
		m.Globals = m.Globals[:d.Below(len(m.Globals)+1)]
	case 3:
		m.Pool = m.Pool[:d.Below(len(m.Pool)+1)]
	case 4:
		if len(m.Methods) > 1 {
			m.Methods = m.Methods[:len(m.Methods)-1]
		}
	default:
		m.Methods = append(m.Methods, module.Copy(*m).Methods[0])
	}
}

// What the samples are to be: each error, by each check that can find it, and many that are accepted. No error is told that the chapter does not list, nor by a check that it does not list it for.
func TestSamples(t *testing.T) {
	var accepted int
	found := map[[2]int]int{}
	blamed := 0
	for seed := range seeds {
		d := sample.Dice(seed)
		m := sample.Module(seed)
		if v := compare(t, m); v.e != 0 {
			t.Fatalf("%d, of %v", v.e, m)
		}
		for range 30 {
			v := compare(t, altered(m, &d))
			if v.e == 0 {
				accepted++
				continue
			}
			found[[2]int{v.check, int(v.e)}]++
			if v.blame > 0 {
				blamed++
			}
		}
	}
	listed := [][2]int{{1, 40}, {1, 60}, {1, 70}, {1, 80}, {2, 70}, {3, 90}, {3, 100}, {3, 101}, {4, 110}, {5, 120}, {6, 130}}
	for _, f := range listed {
		if found[f] < 50 {
			t.Errorf("%d errors %d by check %d", found[f], f[1], f[0])
		}
	}
	for f := range found {
		if !slices.Contains(listed, f) {
			t.Errorf("%d errors %d by check %d", found[f], f[1], f[0])
		}
	}
	if accepted < 1000 || blamed < 1000 {
		t.Errorf("%d accepted, %d blamed beside the first method", accepted, blamed)
	}
}
