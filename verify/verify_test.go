package verify_test

import (
	"bytes"
	"math"
	"slices"
	"strings"
	"testing"

	"capstan/api"
	"capstan/module"
	"capstan/sample"
	"capstan/verify"
)

// P14.1 to P14.3: the chapter's examples.
func TestExamples(t *testing.T) {
	compareAccepted(t, small(), api.Cert{Fuel: 2, Stack: 1})
	compareError(t, changed(small(), func(m *api.Module) { m.Methods[0].Fuel = 1 }), 5, badCost, -1)
	compareError(t, changed(small(), func(m *api.Module) { m.Methods[0].Code = sample.Code("ret") }), 3, badStack, 0)
	compareError(t, changed(small(), func(m *api.Module) { m.Migrate, m.Methods[0].Args = 0, sample.Kinds("r") }), 2, badMethod, -1)
	m, certs, e := verify.Load([]byte{0, 0, 0, 255})
	if e != 0 || len(certs) > 0 || !module.Same(m, api.Module{Migrate: -1}) {
		t.Errorf("%v %v %d", m, certs, e)
	}
}

// P14.1, P14.3: a module of five methods that is accepted, and nobody is blamed.
func TestAccepted(t *testing.T) {
	compareAccepted(t, sound(), soundCerts()...)
	compareAccepted(t, sample.Open(sound()), soundCerts()...)
}

// P14.1 to P14.3: modules without methods, with globals and constants and without; a nil list is like an empty one.
func TestNoMethods(t *testing.T) {
	for _, m := range []api.Module{{Migrate: -1}, {Globals: []api.Value{}, Pool: []api.Value{}, Methods: []api.Method{}, Migrate: -1}, with(), {Globals: sample.Values("nppn"), Migrate: -1}} {
		compareAccepted(t, m)
		if certs, e := verify.Accept(m); e != 0 || len(certs) > 0 {
			t.Errorf("%v %d, of %v", certs, e, m)
		}
	}
	compareError(t, api.Module{}, 1, badModule, -1)
	compareError(t, changed(with(), func(m *api.Module) { m.Globals = sample.Values("npnpn") }), 1, badModule, -1)
	compareError(t, changed(with(), func(m *api.Module) { m.Pool = sample.Values("r") }), 1, badPool, -1)
}

// P14.1: a module of one method without instructions, and one whose lists are nil.
func TestNoCode(t *testing.T) {
	compareError(t, api.Module{Methods: []api.Method{{}}}, 1, badMethod, -1)
	compareError(t, api.Module{Methods: []api.Method{{Result: 1}}}, 1, badOp, -1)
	compareError(t, api.Module{Methods: []api.Method{{Result: 1, Code: []api.Instr{{}}}}}, 3, badJump, 0)
	compareAccepted(t, api.Module{Methods: []api.Method{{Result: 1, Fuel: 1, Code: sample.Code("trap")}}}, api.Cert{Fuel: 1})
}

// P14.1: a migrating method without arguments, and with integers and pairs; arrays among its other locals do not matter, nor among the arguments of a method that does not migrate.
func TestMigrates(t *testing.T) {
	for _, args := range []string{"", "n", "p", "nn", "np", "npnp", "nnnn"} {
		for _, locals := range []string{"", "r", "nrp", "rrrr"} {
			for k := range 3 {
				m := with(method("r", "", "trap"), method("rnr", "r", "trap"))
				m.Methods = slices.Insert(m.Methods, k, method(args, locals, "trap"))
				m.Migrate = k
				size := len(args) + len(locals)
				certs := slices.Insert([]api.Cert{{Fuel: 1, Stack: 1}, {Fuel: 1, Stack: 4}}, k, api.Cert{Fuel: 1, Stack: size})
				compareAccepted(t, m, certs...)
				m.Migrate = -1
				compareAccepted(t, m, certs...)
			}
		}
	}
}

// P14.1, P14.3: a migrating method with an array as its first, a middle and its last argument, without another fault and with each one.
func TestMigratesArrays(t *testing.T) {
	for _, args := range []string{"r", "rn", "nr", "rnp", "nrp", "npr", "rnnn", "nrnn", "nnrn", "nnnr", "rrrr"} {
		for k := range 3 {
			m := with(method("r", "", "trap"), method("", "", "trap"))
			m.Methods = slices.Insert(m.Methods, k, method(args, "", "trap"))
			m.Migrate = k
			compareError(t, m, 2, badMethod, -1)
			for _, text := range []string{"nop", "ret", "get 9; ret", "trap; call 0; trap", "loop 100; loop 100; loop 100; nop; again 2; again 1; again 0; trap"} {
				bad := changed(m, func(m *api.Module) { m.Methods[k].Code = sample.Code(text) })
				compareError(t, bad, 2, badMethod, -1)
			}
			compareError(t, changed(m, func(m *api.Module) { m.Methods[k].Reads = true }), 2, badMethod, -1)
			compareError(t, changed(m, func(m *api.Module) { m.Methods[k].Code = nil }), 1, badOp, -1)
			compareError(t, changed(m, func(m *api.Module) { m.Methods[2-k].Fuel = -1 }), 1, badMethod, -1)
			compareError(t, changed(m, func(m *api.Module) { m.Globals = sample.Values("r") }), 1, badPool, -1)
			compareError(t, changed(m, func(m *api.Module) { m.Migrate = 3 }), 1, badModule, -1)
		}
	}
}

// P14.1: indices of the migrating method that are none.
func TestMigratesNone(t *testing.T) {
	for _, n := range []int{0, 1, 2, 16} {
		for _, k := range []int{-2, -3, n, n + 1, 16, 255, 256, 254, 1 << 32, math.MinInt, math.MaxInt} {
			m := with(slices.Repeat([]api.Method{plain("trap")}, n)...)
			m.Migrate = k
			compareError(t, m, 1, badModule, -1)
		}
	}
}

// declaration is a number that a method declares.
type declaration struct {
	name  string
	of    func(x *api.Method) *int
	limit int
}

// declarations returns the three numbers that a method declares.
func declarations() []declaration {
	return []declaration{
		{"fuel", func(x *api.Method) *int { return &x.Fuel }, 1048576},
		{"stack", func(x *api.Method) *int { return &x.Stack }, 256},
		{"heap", func(x *api.Method) *int { return &x.Heap }, 1024},
	}
}

// declared returns a copy of m in which the method k declares so much.
func declared(m api.Module, k int, d declaration, number int) api.Module {
	return changed(m, func(m *api.Module) { *d.of(&m.Methods[k]) = number })
}

// P14.1: each number as it is taken, one less and one more, the limit and beyond, and below 0.
func TestDeclarations(t *testing.T) {
	for k := range soundCerts() {
		for _, d := range declarations() {
			m := sound()
			exact := *d.of(&m.Methods[k])
			for _, number := range []int{exact, exact + 1, d.limit - 1, d.limit} {
				compareAccepted(t, declared(m, k, d, number), soundCerts()...)
			}
			for _, number := range []int{d.limit + 1, -1, math.MinInt, math.MaxInt} {
				compareError(t, declared(m, k, d, number), 1, badMethod, -1)
			}
			if exact > 0 {
				compareError(t, declared(m, k, d, exact-1), 5, badCost, -1)
				compareError(t, declared(m, k, d, 0), 5, badCost, -1)
			}
		}
	}
}

// P14.1: methods that take just as much as may be, and those that take one more.
func TestLimits(t *testing.T) {
	long := "loop 100; loop 100; loop 10; 9* nop; again 2; again 1; again 0; loop 100; loop 10; 27* nop; again 16; again 15; loop 100; again 46; "
	compareAccepted(t, with(plain(long+"72* nop; trap")), api.Cert{Fuel: 1048576})
	compareError(t, with(plain(long+"73* nop; trap")), 5, badCost, -1)
	high, locals := plain("199* load 0; trap"), strings.Repeat("n", 16)
	compareAccepted(t, with(high, method("", locals, "41* load 0; call 0; trap")), api.Cert{Fuel: 200, Stack: 199}, api.Cert{Fuel: 243, Stack: 256})
	compareError(t, with(high, method("", locals, "42* load 0; call 0; trap")), 5, badCost, -1)
	compareAccepted(t, with(plain("const 0; new 1000; const 0; new 24; trap")), api.Cert{Fuel: 5, Stack: 2, Heap: 1024})
	compareError(t, with(plain("const 0; new 1000; const 0; new 25; trap")), 5, badCost, -1)
	compareAccepted(t, with(slices.Repeat([]api.Method{plain("trap")}, 16)...), slices.Repeat([]api.Cert{{Fuel: 1}}, 16)...)
	compareError(t, with(slices.Repeat([]api.Method{plain("trap")}, 17)...), 1, badModule, -1)
}

// P14.1: Reads set where nothing is changed, where something is stored, and where someone is called for whom it is not set.
func TestReads(t *testing.T) {
	quiet, storing := plain("load 0; ret"), plain("const 0; store 0; const 0; ret")
	cert, costly := api.Cert{Fuel: 2, Stack: 1}, api.Cert{Fuel: 4, Stack: 1}
	compareAccepted(t, with(quiet), cert)
	compareAccepted(t, with(reading(quiet)), cert)
	compareAccepted(t, with(storing), costly)
	compareError(t, with(reading(storing)), 6, badPure, -1)
	caller := plain("call 1; ret")
	called := api.Cert{Fuel: 4, Stack: 1}
	compareAccepted(t, with(caller, quiet), called, cert)
	compareAccepted(t, with(caller, reading(quiet)), called, cert)
	compareAccepted(t, with(reading(caller), reading(quiet)), called, cert)
	compareError(t, with(reading(caller), quiet), 6, badPure, -1)
	compareError(t, with(reading(caller), storing), 6, badPure, -1)
	compareError(t, with(reading(plain("trap; call 1; trap")), storing), 6, badPure, -1)
	compareError(t, with(quiet, reading(quiet), reading(plain("call 0; pop; call 1; ret"))), 6, badPure, -1)
}

// wrong returns encodings that do not parse, with the errors of chapter 8.
func wrong(t *testing.T) map[string]api.Errno {
	b := encoded(t, small())
	with := func(at int, x byte) string {
		l := bytes.Clone(b)
		l[at] = x
		return string(l)
	}
	return map[string]api.Errno{
		string(make([]byte, 2001)): badLong,
		"":                         badShort,
		"\x00":                     badShort,
		"\x00\x00":                 badShort,
		"\x00\x00\x00":             badShort,
		"\x00\x00\x01":             badShort,
		with(0, 33):                badPool,
		with(0, 5):                 badValue,
		"\x05" + strings.Repeat("\x01\x00\x00\x00\x00\x00\x00\x00\x00", 5): badModule,
		"\x01\x03":                               badValue,
		"\x00\x01\x03":                           badValue,
		"\x00\x00\x11":                           badModule,
		with(10, 33):                             badPool,
		with(12, 5):                              badMethod,
		with(14, 3):                              badMethod,
		with(15, 2):                              badMethod,
		with(23, 0):                              badOp,
		with(24, 33):                             badOp,
		with(25, 4):                              badOp,
		with(len(b)-1, 1):                        badModule,
		with(len(b)-1, 254):                      badModule,
		string(b) + "\x00":                       badModule,
		string(b[:len(b)-1]):                     badShort,
		"\x00\x00\x00\x00":                       badModule,
		"\x00\x00\x00\xff\x00":                   badModule,
		string(append(b, make([]byte, 1990)...)): badLong,
	}
}

// P14.2: bytes that do not parse, by each error of chapter 8.
func TestLoadWrong(t *testing.T) {
	seen := map[api.Errno]bool{}
	for b, e := range wrong(t) {
		_, parse := module.Parse([]byte(b))
		if got := compareLoad(t, []byte(b)); got != e || parse != e {
			t.Errorf("%d, not %d, of %v", got, e, []byte(b))
		}
		seen[e] = true
	}
	for _, e := range []api.Errno{badLong, badShort, badValue, badPool, badMethod, badOp, badModule} {
		if !seen[e] {
			t.Errorf("no bytes with the error %d", e)
		}
	}
}

// P14.2: bytes of modules that are accepted, and of those that have an error; with a byte more and a byte less.
func TestLoad(t *testing.T) {
	modules := []api.Module{small(), sound(), with(), with(plain("trap"))}
	for _, f := range faults() {
		for _, k := range places() {
			modules = append(modules, changed(sound(), func(m *api.Module) { f.in(m, k) }))
		}
	}
	errors := map[api.Errno]int{}
	for _, m := range modules {
		v := judged(m)
		if v.check == 1 {
			continue
		}
		b := encoded(t, m)
		w, certs, e := verify.Load(b)
		if e != v.e || !slices.Equal(certs, v.certs) || (e == 0) != module.Same(w, m) {
			t.Errorf("%v %v %d, of %v", w, certs, e, m)
		}
		errors[e]++
		for _, more := range []byte{0, 1, 255} {
			if e := compareLoad(t, append(bytes.Clone(b), more)); e != badModule {
				t.Errorf("%d, with %d more, of %v", e, more, m)
			}
		}
		if e := compareLoad(t, b[:len(b)-1]); e != badShort {
			t.Errorf("%d, with one byte less, of %v", e, m)
		}
	}
	for _, e := range []api.Errno{0, badMethod, badJump, badType, badStack, badCycle, badCost, badPure} {
		if errors[e] == 0 {
			t.Errorf("no module with the error %d", e)
		}
	}
}

// P14.2: each beginning of an encoding, and each byte of one changed.
func TestLoadChanged(t *testing.T) {
	d := sample.Dice(5)
	var accepted, refused int
	for seed := range 25 {
		b := encoded(t, sample.Module(seed))
		for n := range b {
			if e := compareLoad(t, b[:n]); e != badShort {
				t.Errorf("%d, of %v", e, b[:n])
			}
			other := bytes.Clone(b)
			other[n] = byte(d.Below(256))
			if d.Below(2) == 0 {
				other[n] = b[n] + byte(1-2*d.Below(2))
			}
			if compareLoad(t, other) == 0 {
				accepted++
			} else {
				refused++
			}
		}
	}
	if accepted < 400 || refused < 2000 {
		t.Errorf("%d accepted, %d refused", accepted, refused)
	}
}
