package calls_test

import (
	"slices"
	"testing"

	"capstan/api"
	"capstan/calls"
	"capstan/sample"
)

// leadsOf returns to whom each method of m leads, as Leads tells it.
func leadsOf(t *testing.T, m api.Module) [][]int {
	t.Helper()
	var l [][]int
	for k := range m.Methods {
		leads, e := calls.Leads(m, k)
		if e != 0 {
			t.Fatalf("%d, of %v", e, m)
		}
		l = append(l, leads)
	}
	return l
}

// holdOrder holds the order of m against to whom each method leads.
func holdOrder(t *testing.T, m api.Module) {
	t.Helper()
	order, e := calls.Order(m)
	if e != 0 {
		t.Fatalf("%d, of %v", e, m)
	}
	if sorted := slices.Sorted(slices.Values(order)); len(order) != len(m.Methods) || len(slices.Compact(sorted)) != len(order) {
		t.Fatalf("%v, of %v", order, m)
	}
	for k, leads := range leadsOf(t, m) {
		for _, to := range leads {
			if slices.Index(order, to) >= slices.Index(order, k) {
				t.Fatalf("%v, but %d leads to %d, of %v", order, k, to, m)
			}
		}
	}
}

// P11.4: each method stands after all to which it leads.
func TestOrderLeads(t *testing.T) {
	for m := range all(3) {
		if calls.Check(m) == 0 {
			holdOrder(t, m)
		}
	}
	for seed := range seeds {
		holdOrder(t, grown(seed))
	}
	for _, n := range []int{1, 2, 16, 40} {
		for _, step := range []int{1, -1, 3, -3} {
			holdOrder(t, chain(n, step))
		}
	}
}

// P11.4: where no method calls another one, the order is 0, 1, 2, ...
func TestOrderIdle(t *testing.T) {
	for _, n := range []int{0, 1, 2, 3, 15, 16, 17, 40, 300} {
		m := idle(n)
		for k := range m.Methods {
			m.Methods[k].Code = sample.Code("get 1; store 1; jump 1; ret")[:k%5]
		}
		order, e := calls.Order(m)
		if e != 0 || len(order) != n {
			t.Fatalf("%v %d, of %d methods", order, e, n)
		}
		for at, k := range order {
			if at != k {
				t.Fatalf("%v, of %d methods", order, n)
			}
		}
	}
}

// round returns methods each of which calls the next and the last of which calls the first, as Whom tells it, or nothing if there are none.
func round(m api.Module) []int {
	met := make([]bool, len(m.Methods))
	var path []int
	var walk func(k int) []int
	walk = func(k int) []int {
		if at := slices.Index(path, k); at >= 0 {
			return path[at:]
		}
		if met[k] {
			return nil
		}
		met[k] = true
		path = append(path, k)
		whom, _ := calls.Whom(m, k)
		for _, to := range whom {
			if l := walk(to); l != nil {
				return l
			}
		}
		path = path[:len(path)-1]
		return nil
	}
	for k := range m.Methods {
		if l := walk(k); l != nil {
			return l
		}
	}
	return nil
}

// holdRound holds the error of m, whose calls all exist, against whether methods call each other in a round.
func holdRound(t *testing.T, m api.Module) {
	t.Helper()
	l := round(m)
	if e := calls.Check(m); (e == badCycle) != (len(l) > 0) || e != 0 && e != badCycle {
		t.Fatalf("%d, but %v call each other, of %v", e, l, m)
	}
	for at, k := range l {
		if to := l[(at+1)%len(l)]; !does(m, k, to) {
			t.Fatalf("%d does not call %d, of %v", k, to, m)
		}
	}
}

// P11.5: ErrCycle means that there are methods each of which calls the next, and the last of which calls the first; no other module is ErrCycle.
func TestRounds(t *testing.T) {
	for n := range 5 {
		for m := range all(n) {
			holdRound(t, m)
		}
	}
	cycles := 0
	for seed := range seeds {
		m := grown(seed)
		holdRound(t, m)
		d := dice(seed)
		for range 4 {
			k := d.below(len(m.Methods))
			m = inserted(m, k, 0, call(d.below(len(m.Methods))))
			holdRound(t, m)
		}
		if calls.Check(m) == badCycle {
			cycles++
		}
	}
	if cycles < 200 || cycles > seeds-20 {
		t.Errorf("%d with cycles", cycles)
	}
}

// oneWay returns a module of n methods whose calls all lead to greater indices, or all to smaller ones.
func oneWay(d *dice, n int, greater bool) api.Module {
	m := idle(n)
	for k := range n {
		for range d.below(5) {
			to := d.below(n)
			if to != k && to > k == greater {
				m.Methods[k].Code = append(m.Methods[k].Code, call(to))
			}
		}
	}
	return m
}

// P11.6: calls to greater indices alone, and calls to smaller ones alone.
func TestOneWay(t *testing.T) {
	d := dice(1)
	for range seeds {
		n := 1 + d.below(40)
		for _, greater := range []bool{true, false} {
			m := oneWay(&d, n, greater)
			if e := calls.Check(m); e != 0 {
				t.Fatalf("%d, of %v", e, m)
			}
			holdOrder(t, m)
		}
	}
	for _, n := range []int{1, 2, 3, 16, 40} {
		up, down := idle(n), idle(n)
		for a := range n {
			for b := range a {
				up.Methods[b].Code = append(up.Methods[b].Code, call(a))
				down.Methods[a].Code = append(down.Methods[a].Code, call(b))
			}
		}
		for _, m := range []api.Module{up, down} {
			if e := calls.Check(m); e != 0 {
				t.Errorf("%d, of %v", e, m)
			}
		}
	}
}

// holdAdded holds what Check says of m with one call more against whether the method that is called leads to the one that calls, for each two methods.
func holdAdded(t *testing.T, m api.Module, d *dice) (cycles, others int) {
	t.Helper()
	leads := leadsOf(t, m)
	for a := range m.Methods {
		for b := range m.Methods {
			want := api.OK
			if a == b || slices.Contains(leads[b], a) {
				want = badCycle
				cycles++
			} else {
				others++
			}
			other := inserted(m, a, d.below(len(m.Methods[a].Code)+1), call(b))
			if e := calls.Check(other); e != want {
				t.Fatalf("%d, not %d, as %d calls %d, too, of %v", e, want, a, b, m)
			}
		}
	}
	return cycles, others
}

// P11.6: a call added from a method to one that leads to it is ErrCycle; added to one that does not, it is not.
func TestAdded(t *testing.T) {
	d := dice(2)
	for n := range 4 {
		for m := range all(n) {
			if calls.Check(m) == 0 {
				holdAdded(t, m, &d)
			}
		}
	}
	cycles, others := 0, 0
	for seed := range seeds / 4 {
		c, o := holdAdded(t, grown(seed), &d)
		cycles, others = cycles+c, others+o
		n := 1 + d.below(16)
		holdAdded(t, oneWay(&d, n, true), &d)
		holdAdded(t, oneWay(&d, n, false), &d)
	}
	if cycles < 2000 || others < 2000 {
		t.Errorf("%d with cycles, %d without", cycles, others)
	}
}
