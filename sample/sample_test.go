package sample_test

import (
	"testing"

	"capstan/api"
	"capstan/calls"
	"capstan/module"
	"capstan/sample"
	"capstan/verify"
)

// seeds is how many modules are made.
const seeds = 1000

// Modules are accepted, the same ones each time, and of all sorts.
func TestModule(t *testing.T) {
	var opcodes [api.OpCount]int
	deep, heavy, reads, migrates, exact := 0, 0, 0, 0, 0
	for seed := range seeds {
		m := sample.Module(seed)
		certs, e := verify.Accept(m)
		if e != 0 || !module.Same(m, sample.Module(seed)) {
			t.Fatalf("%d, of %v", e, m)
		}
		chains, _ := calls.Deep(m)
		for k, x := range m.Methods {
			for _, i := range x.Code {
				opcodes[i.Op]++
			}
			if chains[k] > 2 {
				deep++
			}
			if certs[k].Heap > 50 {
				heavy++
			}
			if x.Reads {
				reads++
			}
			if certs[k] == (api.Cert{Fuel: x.Fuel, Stack: x.Stack, Heap: x.Heap}) {
				exact++
			}
		}
		if m.Migrate >= 0 {
			migrates++
		}
	}
	for opcode, n := range opcodes {
		if n < 200 {
			t.Errorf("%d of the opcode %d", n, opcode)
		}
	}
	if deep < 400 || heavy < 400 || reads < 400 || migrates < 400 || exact < 400 {
		t.Errorf("%d deep, %d with much heap, %d read, %d migrate, %d declare what they take", deep, heavy, reads, migrates, exact)
	}
}

// Numbers are as low and as high as they may be, and each of a few comes up.
func TestDice(t *testing.T) {
	var often [7]int
	d := sample.Dice(1)
	for range 7000 {
		often[d.Below(7)]++
	}
	for n, times := range often {
		if times < 800 {
			t.Errorf("%d comes up %d times", n, times)
		}
	}
}

// A twin is equal, and writing into it changes nothing else; what stands behind its lists is seen by Whole alone.
func TestTwin(t *testing.T) {
	for seed := range 50 {
		m := sample.Module(seed)
		kept := module.Copy(m)
		twin := sample.Twin(m)
		whole := sample.Whole(twin)
		if !module.Same(twin, m) || len(whole.Methods) < len(m.Methods)+2 || len(whole.Methods[0].Code) < len(m.Methods[0].Code)+4 {
			t.Fatalf("%v of %v", whole, m)
		}
		sample.SpoilModule(twin)
		if !module.Same(m, kept) || module.Same(twin, kept) {
			t.Fatalf("%v has changed, into %v", kept, m)
		}
	}
}
