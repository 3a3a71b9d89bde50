package gauss_test

import (
	"math"
	"testing"

	"capstan/gauss"
)

const m = 1 << 20 // the greatest part of a valid pair

// parts returns integers that may be parts, and such that may not: among these the ones that wrap around when they are negated, added or multiplied.
func parts() []int64 {
	l := []int64{1, 2, 3, 17, 1023, 1024, 1025, 61681, m/2 - 1, m / 2, m - 1, m, m + 1, m + 2, 2 * m, 1 << 31, 1 << 32, 1 << 62, math.MaxInt64 - 1, math.MaxInt64}
	out := []int64{math.MinInt64}
	for i := len(l) - 1; i >= 0; i-- {
		out = append(out, -l[i])
	}
	return append(append(out, 0), l...)
}

// pairs returns all pairs of the parts.
func pairs(parts []int64) []gauss.Pair {
	var l []gauss.Pair
	for _, a := range parts {
		for _, b := range parts {
			l = append(l, gauss.Pair{a, b})
		}
	}
	return l
}

// lawful returns valid pairs for the laws: small ones, which may be multiplied again and again, and those at the edges.
func lawful() []gauss.Pair {
	l := pairs([]int64{-7, -1, 0, 1, 2, 100})
	for _, n := range []int64{m, m - 1, 1024, 500} {
		l = append(l, gauss.Pair{n, 0}, gauss.Pair{0, n}, gauss.Pair{n, -n}, gauss.Pair{-n, -1}, gauss.Pair{1, -n})
	}
	return l
}

// valid tells by the chapter's own words whether p is valid.
func valid(p gauss.Pair) bool {
	return p[0] >= -m && p[0] <= m && p[1] >= -m && p[1] <= m
}

// settled returns what an operation is to return, given its operands and the result that it has if they are valid.
func settled(p, q, result gauss.Pair) (gauss.Pair, bool) {
	if valid(p) && valid(q) && valid(result) {
		return result, true
	}
	return gauss.Pair{}, false
}

// P2.1: ordinary pairs, both ends of both parts, one beyond each, and the ends of 64 bits.
func TestMay(t *testing.T) {
	for i, x := range []struct {
		p    gauss.Pair
		want bool
	}{
		{gauss.Pair{}, true},
		{gauss.Pair{3, -4}, true},
		{gauss.Pair{m, 0}, true},
		{gauss.Pair{-m, 0}, true},
		{gauss.Pair{0, m}, true},
		{gauss.Pair{0, -m}, true},
		{gauss.Pair{m, m}, true},
		{gauss.Pair{-m, m}, true},
		{gauss.Pair{m, -m}, true},
		{gauss.Pair{-m, -m}, true},
		{gauss.Pair{m + 1, 0}, false},
		{gauss.Pair{-m - 1, 0}, false},
		{gauss.Pair{0, m + 1}, false},
		{gauss.Pair{0, -m - 1}, false},
		{gauss.Pair{m + 1, -m - 1}, false},
		{gauss.Pair{math.MaxInt64, 0}, false},
		{gauss.Pair{math.MinInt64, 0}, false},
		{gauss.Pair{0, math.MaxInt64}, false},
		{gauss.Pair{0, math.MinInt64}, false},
		{gauss.Pair{1 << 32, 1}, false},
		{gauss.Pair{1, 1 << 32}, false},
	} {
		if may := gauss.May(x.p); may != x.want {
			t.Errorf("%d: May(%v) = %v", i, x.p, may)
		}
	}
	for _, p := range pairs(parts()) {
		if may := gauss.May(p); may != valid(p) {
			t.Errorf("May(%v) = %v", p, may)
		}
	}
}

// P2.1: a norm may be far above MaxPart; what is not valid has none, whatever its squares wrap around to.
func TestMeasure(t *testing.T) {
	for i, x := range []struct {
		p    gauss.Pair
		want int64
	}{
		{gauss.Pair{}, 0},
		{gauss.Pair{3, 4}, 25},
		{gauss.Pair{-3, 4}, 25},
		{gauss.Pair{4, -3}, 25},
		{gauss.Pair{-2, -1}, 5},
		{gauss.Pair{0, 1}, 1},
		{gauss.Pair{1024, 0}, m},
		{gauss.Pair{m, 0}, 1 << 40},
		{gauss.Pair{0, -m}, 1 << 40},
		{gauss.Pair{m, m}, 1 << 41},
		{gauss.Pair{-m, -m}, 1 << 41},
		{gauss.Pair{m, 1}, 1<<40 + 1},
		{gauss.Pair{m + 1, 0}, -1},
		{gauss.Pair{-m - 1, 0}, -1},
		{gauss.Pair{0, m + 1}, -1},
		{gauss.Pair{0, -m - 1}, -1},
		{gauss.Pair{1 << 32, 0}, -1},
		{gauss.Pair{math.MaxInt64, 1}, -1},
		{gauss.Pair{math.MinInt64, 0}, -1},
		{gauss.Pair{0, math.MinInt64}, -1},
	} {
		if n := gauss.Measure(x.p); n != x.want {
			t.Errorf("%d: Measure(%v) = %d", i, x.p, n)
		}
	}
	for _, p := range pairs(parts()) {
		want := int64(-1)
		if valid(p) {
			want = p[0]*p[0] + p[1]*p[1]
		}
		if n := gauss.Measure(p); n != want {
			t.Errorf("Measure(%v) = %d", p, n)
		}
	}
}

// outcome is an operation on two pairs, and what it is to return.
type outcome struct {
	p, q, want gauss.Pair
	is         bool
}

// compare holds an operation against outcomes.
func compare(t *testing.T, operation func(p, q gauss.Pair) (gauss.Pair, bool), l []outcome) {
	t.Helper()
	for i, x := range l {
		if r, is := operation(x.p, x.q); r != x.want || is != x.is {
			t.Errorf("%d: of %v and %v: %v, %v", i, x.p, x.q, r, is)
		}
	}
}

// P2.2: sums that are just valid and just not, in each part, to either side; and operands that are not valid though the sum would be.
func TestAdd(t *testing.T) {
	compare(t, gauss.Add, []outcome{
		{gauss.Pair{1, 2}, gauss.Pair{3, -1}, gauss.Pair{4, 1}, true},
		{gauss.Pair{}, gauss.Pair{}, gauss.Pair{}, true},
		{gauss.Pair{7, -9}, gauss.Pair{}, gauss.Pair{7, -9}, true},
		{gauss.Pair{m, -m}, gauss.Pair{-m, m}, gauss.Pair{}, true},
		{gauss.Pair{m - 1, 0}, gauss.Pair{1, 0}, gauss.Pair{m, 0}, true},
		{gauss.Pair{1 - m, 0}, gauss.Pair{-1, 0}, gauss.Pair{-m, 0}, true},
		{gauss.Pair{0, m / 2}, gauss.Pair{5, m / 2}, gauss.Pair{5, m}, true},
		{gauss.Pair{0, -m / 2}, gauss.Pair{5, -m / 2}, gauss.Pair{5, -m}, true},
		{gauss.Pair{m, 0}, gauss.Pair{1, 0}, gauss.Pair{}, false},
		{gauss.Pair{-m, 0}, gauss.Pair{-1, 0}, gauss.Pair{}, false},
		{gauss.Pair{0, 1}, gauss.Pair{0, m}, gauss.Pair{}, false},
		{gauss.Pair{3, -1}, gauss.Pair{4, -m}, gauss.Pair{}, false},
		{gauss.Pair{m, m}, gauss.Pair{m, m}, gauss.Pair{}, false},
		{gauss.Pair{m + 1, 0}, gauss.Pair{-1, 0}, gauss.Pair{}, false},
		{gauss.Pair{-1, 0}, gauss.Pair{m + 1, 0}, gauss.Pair{}, false},
		{gauss.Pair{0, -m - 1}, gauss.Pair{0, 1}, gauss.Pair{}, false},
		{gauss.Pair{0, 1}, gauss.Pair{0, -m - 1}, gauss.Pair{}, false},
		{gauss.Pair{math.MinInt64, 0}, gauss.Pair{math.MinInt64, 0}, gauss.Pair{}, false},
		{gauss.Pair{math.MaxInt64, 0}, gauss.Pair{math.MinInt64, 0}, gauss.Pair{}, false},
		{gauss.Pair{0, math.MaxInt64}, gauss.Pair{0, math.MinInt64}, gauss.Pair{}, false},
	})
}

// P2.2: differences likewise.
func TestSub(t *testing.T) {
	compare(t, gauss.Sub, []outcome{
		{gauss.Pair{1, 2}, gauss.Pair{3, -1}, gauss.Pair{-2, 3}, true},
		{gauss.Pair{}, gauss.Pair{}, gauss.Pair{}, true},
		{gauss.Pair{}, gauss.Pair{7, -9}, gauss.Pair{-7, 9}, true},
		{gauss.Pair{m, -m}, gauss.Pair{m, -m}, gauss.Pair{}, true},
		{gauss.Pair{m - 1, 0}, gauss.Pair{-1, 0}, gauss.Pair{m, 0}, true},
		{gauss.Pair{1 - m, 0}, gauss.Pair{1, 0}, gauss.Pair{-m, 0}, true},
		{gauss.Pair{5, m / 2}, gauss.Pair{0, -m / 2}, gauss.Pair{5, m}, true},
		{gauss.Pair{5, -m / 2}, gauss.Pair{0, m / 2}, gauss.Pair{5, -m}, true},
		{gauss.Pair{m, 0}, gauss.Pair{-1, 0}, gauss.Pair{}, false},
		{gauss.Pair{-m, 0}, gauss.Pair{1, 0}, gauss.Pair{}, false},
		{gauss.Pair{0, 1}, gauss.Pair{0, -m}, gauss.Pair{}, false},
		{gauss.Pair{3, -1}, gauss.Pair{4, m}, gauss.Pair{}, false},
		{gauss.Pair{m, -m}, gauss.Pair{-m, m}, gauss.Pair{}, false},
		{gauss.Pair{m + 1, 0}, gauss.Pair{1, 0}, gauss.Pair{}, false},
		{gauss.Pair{m + 1, 0}, gauss.Pair{m + 1, 0}, gauss.Pair{}, false},
		{gauss.Pair{1, 0}, gauss.Pair{m + 1, 0}, gauss.Pair{}, false},
		{gauss.Pair{0, -1}, gauss.Pair{0, -m - 1}, gauss.Pair{}, false},
		{gauss.Pair{math.MinInt64, 0}, gauss.Pair{math.MinInt64, 0}, gauss.Pair{}, false},
		{gauss.Pair{0, math.MaxInt64}, gauss.Pair{0, math.MaxInt64}, gauss.Pair{}, false},
		{gauss.Pair{}, gauss.Pair{0, math.MinInt64}, gauss.Pair{}, false},
	})
}

// P2.2: products likewise; and such as are far beyond, or would wrap around to something valid.
func TestMul(t *testing.T) {
	compare(t, gauss.Mul, []outcome{
		{gauss.Pair{1, 2}, gauss.Pair{3, -1}, gauss.Pair{5, 5}, true},
		{gauss.Pair{0, 1}, gauss.Pair{0, 1}, gauss.Pair{-1, 0}, true},
		{gauss.Pair{}, gauss.Pair{}, gauss.Pair{}, true},
		{gauss.Pair{}, gauss.Pair{-m, m}, gauss.Pair{}, true},
		{gauss.Pair{-m, m}, gauss.Pair{1, 0}, gauss.Pair{-m, m}, true},
		{gauss.Pair{-m, m}, gauss.Pair{-1, 0}, gauss.Pair{m, -m}, true},
		{gauss.Pair{-m, m}, gauss.Pair{0, 1}, gauss.Pair{-m, -m}, true},
		{gauss.Pair{1024, 0}, gauss.Pair{1024, 0}, gauss.Pair{m, 0}, true},
		{gauss.Pair{1024, 0}, gauss.Pair{-1024, 0}, gauss.Pair{-m, 0}, true},
		{gauss.Pair{1024, 0}, gauss.Pair{0, 1024}, gauss.Pair{0, m}, true},
		{gauss.Pair{0, -1024}, gauss.Pair{1024, 0}, gauss.Pair{0, -m}, true},
		{gauss.Pair{1025, 0}, gauss.Pair{1023, 0}, gauss.Pair{m - 1, 0}, true},
		{gauss.Pair{1024, 1}, gauss.Pair{1024, 1}, gauss.Pair{m - 1, 2048}, true},
		// The square of 1074 alone would be beyond.
		{gauss.Pair{1074, 458}, gauss.Pair{1074, 458}, gauss.Pair{943712, 983784}, true},
		// 17 times 61681 is MaxPart + 1, and so is the square of 1024 plus the square of 1.
		{gauss.Pair{17, 0}, gauss.Pair{61681, 0}, gauss.Pair{}, false},
		{gauss.Pair{17, 0}, gauss.Pair{-61681, 0}, gauss.Pair{}, false},
		{gauss.Pair{0, 17}, gauss.Pair{61681, 0}, gauss.Pair{}, false},
		{gauss.Pair{0, -17}, gauss.Pair{61681, 0}, gauss.Pair{}, false},
		{gauss.Pair{1024, 1}, gauss.Pair{1024, -1}, gauss.Pair{}, false},
		{gauss.Pair{1024, 1}, gauss.Pair{-1024, 1}, gauss.Pair{}, false},
		{gauss.Pair{1, 1024}, gauss.Pair{1024, 1}, gauss.Pair{}, false},
		{gauss.Pair{1, -1024}, gauss.Pair{1024, -1}, gauss.Pair{}, false},
		{gauss.Pair{m, 0}, gauss.Pair{2, 0}, gauss.Pair{}, false},
		{gauss.Pair{m, m}, gauss.Pair{m, m}, gauss.Pair{}, false},
		{gauss.Pair{m, -m}, gauss.Pair{m, m}, gauss.Pair{}, false},
		{gauss.Pair{-m, -m}, gauss.Pair{m, 0}, gauss.Pair{}, false},
		{gauss.Pair{m + 1, 0}, gauss.Pair{}, gauss.Pair{}, false},
		{gauss.Pair{}, gauss.Pair{0, -m - 1}, gauss.Pair{}, false},
		{gauss.Pair{2 * m, 0}, gauss.Pair{0, 0}, gauss.Pair{}, false},
		{gauss.Pair{1 << 32, 0}, gauss.Pair{1 << 32, 0}, gauss.Pair{}, false},
		{gauss.Pair{1 << 62, 0}, gauss.Pair{4, 0}, gauss.Pair{}, false},
		{gauss.Pair{math.MaxInt64, 0}, gauss.Pair{math.MaxInt64, 0}, gauss.Pair{}, false},
		{gauss.Pair{math.MinInt64, 0}, gauss.Pair{2, 0}, gauss.Pair{}, false},
		{gauss.Pair{0, 2}, gauss.Pair{0, math.MinInt64}, gauss.Pair{}, false},
		{gauss.Pair{}, gauss.Pair{math.MinInt64, math.MinInt64}, gauss.Pair{}, false},
	})
}

// P2.2: all pairs of the parts against one another; where both are valid, integers of 64 bits are exact.
func TestAgainstIntegers(t *testing.T) {
	l := pairs(parts())
	for _, p := range l {
		for _, q := range l {
			for i, x := range []struct {
				result    gauss.Pair
				operation func(p, q gauss.Pair) (gauss.Pair, bool)
			}{
				{gauss.Pair{p[0] + q[0], p[1] + q[1]}, gauss.Add},
				{gauss.Pair{p[0] - q[0], p[1] - q[1]}, gauss.Sub},
				{gauss.Pair{p[0]*q[0] - p[1]*q[1], p[0]*q[1] + p[1]*q[0]}, gauss.Mul},
			} {
				want, is := settled(p, q, x.result)
				if r, ri := x.operation(p, q); r != want || ri != is {
					t.Fatalf("operation %d of %v and %v: %v, %v", i, p, q, r, ri)
				}
			}
		}
	}
}

// P2.3: ordinary pairs, the edges, and pairs that are not valid: negating the least integer of 64 bits returns itself.
func TestConj(t *testing.T) {
	for i, x := range []struct {
		p, want gauss.Pair
		is      bool
	}{
		{gauss.Pair{0, 7}, gauss.Pair{0, -7}, true},
		{gauss.Pair{3, -4}, gauss.Pair{3, 4}, true},
		{gauss.Pair{-5, 0}, gauss.Pair{-5, 0}, true},
		{gauss.Pair{}, gauss.Pair{}, true},
		{gauss.Pair{m, m}, gauss.Pair{m, -m}, true},
		{gauss.Pair{-m, -m}, gauss.Pair{-m, m}, true},
		{gauss.Pair{m + 1, 0}, gauss.Pair{}, false},
		{gauss.Pair{-m - 1, 0}, gauss.Pair{}, false},
		{gauss.Pair{0, m + 1}, gauss.Pair{}, false},
		{gauss.Pair{0, -m - 1}, gauss.Pair{}, false},
		{gauss.Pair{0, math.MinInt64}, gauss.Pair{}, false},
		{gauss.Pair{0, math.MaxInt64}, gauss.Pair{}, false},
		{gauss.Pair{math.MinInt64, 1}, gauss.Pair{}, false},
		{gauss.Pair{math.MaxInt64, 1}, gauss.Pair{}, false},
	} {
		if c, is := gauss.Conj(x.p); c != x.want || is != x.is {
			t.Errorf("%d: Conj(%v) = %v, %v", i, x.p, c, is)
		}
	}
	for _, p := range pairs(parts()) {
		want, is := settled(p, p, gauss.Pair{p[0], -p[1]})
		if c, ci := gauss.Conj(p); c != want || ci != is {
			t.Errorf("Conj(%v) = %v, %v", p, c, ci)
		}
	}
}

// side is one side of a law: a pair, and whether all pairs on the way to it are valid.
type side struct {
	p  gauss.Pair
	is bool
}

// sum and product carry on a side as far as all pairs are valid.
func sum(a, b side) side     { return carried(gauss.Add, a, b) }
func product(a, b side) side { return carried(gauss.Mul, a, b) }

func carried(operation func(p, q gauss.Pair) (gauss.Pair, bool), a, b side) side {
	if !a.is || !b.is {
		return side{}
	}
	p, is := operation(a.p, b.p)
	return side{p, is}
}

// conjugate carries on a side likewise.
func conjugate(a side) side {
	if !a.is {
		return side{}
	}
	p, is := gauss.Conj(a.p)
	return side{p, is}
}

// law counts how often both sides of a law were valid, and tells of each time that they differed.
type law struct {
	name string
	held int
}

func (l *law) hold(t *testing.T, a, b side, of ...side) {
	t.Helper()
	if !a.is || !b.is {
		return
	}
	l.held++
	if a != b {
		t.Errorf("%s: %v: %v and %v", l.name, of, a.p, b.p)
	}
}

// enough sees to it that a law was not empty for want of valid pairs.
func (l *law) enough(t *testing.T, least int) {
	t.Helper()
	if l.held < least {
		t.Errorf("%s: held against only %d cases", l.name, l.held)
	}
}

// P2.4: commutative.
func TestCommutative(t *testing.T) {
	sums, products := law{name: "p + q"}, law{name: "pq"}
	for _, p := range lawful() {
		for _, q := range lawful() {
			a, b := side{p, true}, side{q, true}
			sums.hold(t, sum(a, b), sum(b, a), a, b)
			products.hold(t, product(a, b), product(b, a), a, b)
			if sum(a, b).is != sum(b, a).is || product(a, b).is != product(b, a).is {
				t.Errorf("%v and %v are valid together in one order alone", p, q)
			}
		}
	}
	sums.enough(t, 2000)
	products.enough(t, 1500)
}

// P2.4: associative, and multiplication distributes over addition.
func TestAssociative(t *testing.T) {
	sums, products, both := law{name: "p + q + r"}, law{name: "pqr"}, law{name: "p(q + r)"}
	for _, p := range lawful() {
		for _, q := range lawful() {
			for _, r := range lawful() {
				a, b, c := side{p, true}, side{q, true}, side{r, true}
				sums.hold(t, sum(sum(a, b), c), sum(a, sum(b, c)), a, b, c)
				products.hold(t, product(product(a, b), c), product(a, product(b, c)), a, b, c)
				both.hold(t, product(a, sum(b, c)), sum(product(a, b), product(a, c)), a, b, c)
			}
		}
	}
	sums.enough(t, 50000)
	products.enough(t, 50000)
	both.enough(t, 50000)
}

// P2.5: the norm of a product, and its conjugate.
func TestNormOfProduct(t *testing.T) {
	norms, conjugates := law{name: "norm of pq"}, law{name: "conjugate of pq"}
	for _, p := range lawful() {
		for _, q := range lawful() {
			a, b := side{p, true}, side{q, true}
			ab := product(a, b)
			conjugates.hold(t, conjugate(ab), product(conjugate(a), conjugate(b)), a, b)
			if !ab.is {
				continue
			}
			norms.held++
			if gauss.Measure(ab.p) != gauss.Measure(p)*gauss.Measure(q) {
				t.Errorf("the norm of %v times %v: %d", p, q, gauss.Measure(ab.p))
			}
		}
	}
	norms.enough(t, 1500)
	conjugates.enough(t, 1500)
}

// P2.5: a pair times its conjugate is its norm, as long as that is a part of a valid pair.
func TestNormByConjugate(t *testing.T) {
	norms, beyond := law{name: "p times its conjugate"}, law{name: "a norm beyond MaxPart"}
	for _, p := range append(lawful(), gauss.Pair{1023, 45}, gauss.Pair{724, -724}, gauss.Pair{725, 724}, gauss.Pair{1024, 1}) {
		a := side{p, true}
		b := product(a, conjugate(a))
		n := gauss.Measure(p)
		if n > m {
			beyond.held++
			if b != (side{}) {
				t.Errorf("%v times its conjugate: %v", p, b)
			}
			continue
		}
		norms.held++
		if b != (side{gauss.Pair{n, 0}, true}) {
			t.Errorf("%v times its conjugate: %v", p, b)
		}
	}
	norms.enough(t, 40)
	beyond.enough(t, 8)
}
