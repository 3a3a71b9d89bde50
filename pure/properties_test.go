package pure_test

import (
	"testing"

	"capstan/api"
	"capstan/module"
	"capstan/pure"
)

// pureRow returns what Pure tells of m.
func pureRow(t *testing.T, m api.Module) []bool {
	t.Helper()
	l, e := pure.Pure(m)
	if e != 0 || len(l) != len(m.Methods) {
		t.Fatalf("%v %d, of %v", l, e, m)
	}
	return l
}

// holdSound holds whether the methods of m whose Reads is true are pure, if the declarations are sound; it tells whether they are.
func holdSound(t *testing.T, m api.Module) bool {
	t.Helper()
	e := pure.Check(m)
	if e != 0 {
		if e != badPure {
			t.Fatalf("%d, of %v", e, m)
		}
		return false
	}
	told, words := pureRow(t, m), purity(m, doing(m).leading())
	for k, x := range m.Methods {
		if x.Reads && !(told[k] && words[k]) {
			t.Fatalf("%d is declared, of %v", k, m)
		}
	}
	return true
}

// fewer returns a copy of m in which Reads was made false for some methods, and then for those that call one for which it is false.
func fewer(m api.Module, d *dice) api.Module {
	m = module.Copy(m)
	for k := range m.Methods {
		m.Methods[k].Reads = m.Methods[k].Reads && d.below(4) > 0
	}
	for range m.Methods {
		for a := range m.Methods {
			for b := range m.Methods {
				if calling(m, a, b) && !m.Methods[b].Reads {
					m.Methods[a].Reads = false
				}
			}
		}
	}
	return m
}

// P13.4: what sound declarations tell is true.
func TestSoundness(t *testing.T) {
	for n := range 4 {
		for m := range all(n) {
			for b := range 1 << n {
				for k, is := range bits(b, n) {
					m.Methods[k].Reads = is
				}
				holdSound(t, m)
			}
		}
	}
	sound := 0
	for seed := range seeds {
		m := grown(seed)
		holdSound(t, m)
		d := dice(seed)
		said, e := pure.Say(m)
		if e != 0 {
			t.Fatalf("%d, of %v", e, m)
		}
		for _, w := range []api.Module{said, fewer(said, &d)} {
			if !holdSound(t, w) {
				t.Fatalf("%v is not sound", w)
			}
			sound++
			for k := range w.Methods {
				w.Methods[k].Reads = !w.Methods[k].Reads
				if holdSound(t, w) {
					sound++
				}
				w.Methods[k].Reads = !w.Methods[k].Reads
			}
		}
	}
	if sound < 4*seeds {
		t.Errorf("%d sound", sound)
	}
}

// holdMost holds whether the declarations of m are sound as they are said, and not with one more; it returns how many could be added.
func holdMost(t *testing.T, m api.Module) int {
	t.Helper()
	said, e := pure.Say(m)
	if e != 0 {
		t.Fatalf("%d, of %v", e, m)
	}
	for k, is := range pureRow(t, m) {
		if said.Methods[k].Reads != is {
			t.Fatalf("%d is said to be otherwise, of %v", k, m)
		}
	}
	if e := pure.Check(said); e != 0 {
		t.Fatalf("%d, of %v", e, said)
	}
	more := 0
	for k := range said.Methods {
		x := &said.Methods[k]
		if x.Reads {
			continue
		}
		more++
		x.Reads = true
		if e := pure.Check(said); e != badPure {
			t.Fatalf("%d, with %d too, of %v", e, k, said)
		}
		x.Reads = false
	}
	return more
}

// P13.5: Reads of exactly the pure methods is sound, and of one method more is not.
func TestMaximality(t *testing.T) {
	for n := range 4 {
		for m := range all(n) {
			holdMost(t, m)
		}
	}
	more := 0
	for seed := range seeds {
		more += holdMost(t, grown(seed))
	}
	for _, n := range []int{16, 40} {
		for _, step := range []int{1, -1} {
			for k := range n {
				more += holdMost(t, inserted(linked(n, step, false), k, 0, store))
				more += holdMost(t, inserted(linked(n, step, true), k, 0, store))
			}
		}
	}
	if more < 4*seeds {
		t.Errorf("%d could be added", more)
	}
}

// holdAdded holds what is pure in m against what is pure with an OpStore more, at that index of the method k; it returns how many were pure.
func holdAdded(t *testing.T, m api.Module, leads table, k, at int) int {
	t.Helper()
	before, after := pureRow(t, m), pureRow(t, inserted(m, k, at, store))
	for a := range before {
		switch {
		case after[a] && !before[a]:
			t.Fatalf("%d has become pure, as %d stores, of %v", a, k, m)
		case a != k && !leads[a][k] && after[a] != before[a]:
			t.Fatalf("%d is not pure any more, as %d stores, of %v", a, k, m)
		case (a == k || leads[a][k]) && after[a]:
			t.Fatalf("%d is still pure, as %d stores, of %v", a, k, m)
		}
	}
	return count(before) - count(after)
}

// P13.6: an OpStore added to each method in turn, at each index of its code.
func TestAddedStore(t *testing.T) {
	changed := 0
	hold := func(m api.Module) {
		leads := doing(m).leading()
		for k, x := range m.Methods {
			for at := range len(x.Code) + 1 {
				changed += holdAdded(t, m, leads, k, at)
			}
		}
	}
	for n := range 4 {
		for m := range all(n) {
			hold(m)
		}
	}
	for seed := range seeds / 5 {
		hold(grown(seed))
	}
	for _, n := range []int{16, 40} {
		for _, step := range []int{1, -1} {
			hold(linked(n, step, false))
			hold(linked(n, step, true))
		}
	}
	if changed < 4*seeds {
		t.Errorf("%d are not pure any more", changed)
	}
}

// P13.6: OpStores added one after the other, till no method is pure.
func TestAddedStores(t *testing.T) {
	for seed := range seeds / 5 {
		m := grown(seed)
		leads := doing(m).leading()
		for k := range m.Methods {
			holdAdded(t, m, leads, k, len(m.Methods[k].Code))
			m = inserted(m, k, 0, store)
		}
		if l := pureRow(t, m); count(l) > 0 {
			t.Fatalf("%v, of %v", l, m)
		}
	}
}
