package tests

import (
	"slices"
	"testing"

	"loop.example/toricfans/impl"
)

// These tests hold the functions of chapter 4 against each other, promise by promise, as those of the chapters 1 to 3 do.

// divisorFansAndNone has smooth fans, fans that are not smooth, and lists that are no fans.
func divisorFansAndNone() []Fan {
	return append(divisorFans(), unsmoothLists()...)
}

func divisorTimes(t *testing.T, f Fan, d Divisor, n int) Divisor {
	t.Helper()
	list, ok := impl.DivisorTimes(f, d, n)
	if !ok {
		t.Errorf("DivisorTimes(%v, %v, %d) failed", f, d, n)
	}
	return list
}

func divisorDegrees(t *testing.T, f Fan, d Divisor) []int {
	t.Helper()
	list, ok := impl.DivisorDegrees(f, d)
	if !ok {
		t.Errorf("DivisorDegrees(%v, %v) failed", f, d)
	}
	return list
}

func divisorProduct(t *testing.T, f Fan, a, b Divisor) int {
	t.Helper()
	n, ok := impl.DivisorProduct(f, a, b)
	if !ok {
		t.Errorf("DivisorProduct(%v, %v, %v) failed", f, a, b)
	}
	return n
}

func divisorCanonical(t *testing.T, f Fan) Divisor {
	t.Helper()
	d, ok := impl.DivisorCanonical(f)
	if !ok {
		t.Errorf("DivisorCanonical(%v) failed", f)
	}
	return d
}

func TestPromise36(t *testing.T) {
	all := 0
	for _, f := range divisorFansAndNone() {
		for _, d := range divisorsAndNone(f) {
			if !impl.DivisorIn(f, d) {
				continue
			}
			all++
			got, ok := impl.DivisorAdd(f, d, divisorTimes(t, f, d, -1))
			checkDivisor(t, "DivisorAdd", f, d, "its opposite", got, ok, filled(len(f), 0), true)
		}
	}
	atLeast(t, all, 10000)
}

func TestPromise37(t *testing.T) {
	all := 0
	for _, f := range divisorFansAndNone() {
		for _, m := range append(badVecs(), goodVecs()...) {
			d, ok := impl.DivisorOf(f, m)
			if !ok {
				continue
			}
			all++
			if got := divisorDegrees(t, f, d); !slices.Equal(got, filled(len(f), 0)) {
				t.Errorf("the degrees of the divisor of %v of %v are %v", m, f, got)
			}
			if got := divisorProduct(t, f, d, divisorCanonical(t, f)); got != 0 {
				t.Errorf("the product of the divisor of %v of %v with the canonical one is %d", m, f, got)
			}
		}
	}
	atLeast(t, all, 10000)
}

func TestPromise38(t *testing.T) {
	all := 0
	for _, f := range divisorFansAndNone() {
		for _, pair := range coefPairs(f) {
			a, b := pair[0], pair[1]
			sum, ok := impl.DivisorAdd(f, a, b)
			other, fine := impl.DivisorAdd(f, b, a)
			checkDivisor(t, "DivisorAdd", f, b, a, other, fine, sum, ok)
			if !ok {
				continue
			}
			all++
			if got := divisorDegrees(t, f, sum); !slices.Equal(got, plus(divisorDegrees(t, f, a), divisorDegrees(t, f, b))) {
				t.Errorf("the degrees of the sum of %v and %v of %v are %v", a, b, f, got)
			}
		}
	}
	atLeast(t, all, 10000)
}

func TestPromise39(t *testing.T) {
	all := 0
	for i, f := range divisorFansAndNone() {
		list := divisorsAndNone(f)
		for k := i % 3; k < len(list); k += 3 {
			d := list[k]
			for _, n := range factors() {
				e, ok := impl.DivisorTimes(f, d, n)
				if !ok {
					continue
				}
				all++
				if got := divisorProduct(t, f, e, e); got != n*n*divisorProduct(t, f, d, d) {
					t.Errorf("the product of %v times %d with itself of %v is %d", d, n, f, got)
				}
			}
		}
	}
	atLeast(t, all, 10000)
}

func TestPromise40(t *testing.T) {
	all, told := 0, 0
	for _, f := range divisorFansAndNone() {
		for _, pair := range coefPairs(f) {
			a, b := pair[0], pair[1]
			n, ok := impl.DivisorProduct(f, a, b)
			other, fine := impl.DivisorProduct(f, b, a)
			checkNumber(t, "DivisorProduct", f, b, a, other, fine, n, ok)
			if !ok {
				continue
			}
			all++
			plain, ok := impl.DivisorPlain(f, a)
			if !ok {
				continue
			}
			told++
			if got := divisorProduct(t, f, plain, b); got != n {
				t.Errorf("the product of %v, made plain, and %v of %v is %d, not %d", a, b, f, got, n)
			}
		}
	}
	atLeast(t, all, 10000)
	atLeast(t, told, 10000)
}

func TestPromise41(t *testing.T) {
	all := 0
	for _, f := range divisorFansAndNone() {
		for _, d := range divisorsAndNone(f) {
			degrees, ok := impl.DivisorDegrees(f, d)
			if !ok {
				continue
			}
			all++
			sum := Vec{}
			for i, a := range f {
				sum = Vec{X: sum.X + degrees[i]*a.X, Y: sum.Y + degrees[i]*a.Y}
			}
			if sum != (Vec{}) {
				t.Errorf("all rays of %v times the degrees %v of %v are together %v", f, degrees, d, sum)
			}
		}
	}
	atLeast(t, all, 10000)
}

func TestPromise42(t *testing.T) {
	all, told := 0, 0
	for _, f := range divisorFansAndNone() {
		for _, d := range divisorsAndNone(f) {
			if !impl.DivisorNef(f, d) {
				continue
			}
			all++
			if got := divisorProduct(t, f, d, d); got < 0 {
				t.Errorf("the product of %v of %v with itself is %d", d, f, got)
			}
			if double, ok := impl.DivisorTimes(f, d, 2); ok {
				told++
				if !impl.DivisorNef(f, double) {
					t.Errorf("the double of %v of %v is not nef", d, f)
				}
			}
		}
	}
	atLeast(t, all, 1000)
	atLeast(t, told, 1000)
}

func TestPromise43(t *testing.T) {
	all := 0
	for _, f := range divisorFansAndNone() {
		for _, d := range divisorsAndNone(f) {
			if !impl.DivisorAmple(f, d) {
				continue
			}
			all++
			if !impl.DivisorNef(f, d) {
				t.Errorf("%v of %v is ample, but not nef", d, f)
			}
			if got := divisorProduct(t, f, d, d); got <= 0 {
				t.Errorf("the product of %v of %v with itself is %d", d, f, got)
			}
		}
	}
	atLeast(t, all, 300)
}

// movedPairs has pairs of divisors that differ by the products of a vector, and pairs of others.
func movedPairs(f Fan) [][2]Divisor {
	list := coefPairs(f)
	if !isSmooth(f) {
		return list
	}
	mixed := mixedDivisors(len(f))
	for i, m := range shifts(f) {
		if i%3 != 0 {
			continue
		}
		a, b := parted(productsWith(f, m))
		list = append(list, [2]Divisor{a, b}, [2]Divisor{plus(a, mixed[i%5]), plus(b, mixed[i%5])})
	}
	return list
}

func TestPromise44(t *testing.T) {
	all := 0
	for _, f := range divisorFansAndNone() {
		for _, pair := range movedPairs(f) {
			a, b := pair[0], pair[1]
			if !impl.DivisorEquivalent(f, a, b) {
				continue
			}
			all++
			if !impl.DivisorEquivalent(f, b, a) {
				t.Errorf("DivisorEquivalent(%v, %v, %v) does not hold, but does for both exchanged", f, b, a)
			}
			if x, y := divisorDegrees(t, f, a), divisorDegrees(t, f, b); !slices.Equal(x, y) {
				t.Errorf("the degrees of %v and %v of %v are %v and %v", a, b, f, x, y)
			}
		}
	}
	atLeast(t, all, 10000)
}

func TestPromise45(t *testing.T) {
	all := 0
	for _, f := range divisorFansAndNone() {
		for _, pair := range movedPairs(f) {
			a, b := pair[0], pair[1]
			if _, ok := impl.DivisorProduct(f, a, b); !ok || !slices.Equal(divisorDegrees(t, f, a), divisorDegrees(t, f, b)) {
				continue
			}
			all++
			if !impl.DivisorEquivalent(f, a, b) {
				t.Errorf("DivisorEquivalent(%v, %v, %v) does not hold", f, a, b)
			}
		}
	}
	atLeast(t, all, 10000)
}

func TestPromise46(t *testing.T) {
	all := 0
	for _, f := range divisorFansAndNone() {
		for _, d := range divisorsAndNone(f) {
			plain, ok := impl.DivisorPlain(f, d)
			if !ok {
				continue
			}
			all++
			if plain[0] != 0 || plain[1] != 0 || !impl.DivisorEquivalent(f, d, plain) {
				t.Errorf("DivisorPlain(%v, %v) returned %v", f, d, plain)
			}
			again, ok := impl.DivisorPlain(f, plain)
			checkDivisor(t, "DivisorPlain", f, plain, nil, again, ok, plain, true)
		}
	}
	atLeast(t, all, 5000)
}

func TestPromise47(t *testing.T) {
	all := 0
	for _, f := range append(divisorFansAndNone(), smoothFans()...) {
		d, ok := impl.DivisorCanonical(f)
		if !ok {
			continue
		}
		all++
		if got := divisorProduct(t, f, d, d); got != 12-len(f) {
			t.Errorf("the product of the canonical divisor of %v with itself is %d", f, got)
		}
		numbers, ok := impl.FanNumbers(f)
		if !ok || !slices.Equal(plus(divisorDegrees(t, f, d), numbers), filled(len(f), -2)) {
			t.Errorf("the degrees of the canonical divisor of %v with the numbers %v are %v", f, numbers, divisorDegrees(t, f, d))
		}
	}
	atLeast(t, all, len(smoothFans()))
}

func TestPromise48(t *testing.T) {
	all, told := 0, 0
	for _, f := range divisorFansAndNone() {
		for _, d := range divisorsAndNone(f) {
			n, ok := impl.DivisorEuler(f, d)
			if !ok {
				continue
			}
			all++
			if other, ok := impl.DivisorAdd(f, divisorCanonical(t, f), divisorTimes(t, f, d, -1)); ok {
				told++
				got, ok := impl.DivisorEuler(f, other)
				checkNumber(t, "DivisorEuler", f, other, nil, got, ok, n, true)
			}
			got, ok := impl.DivisorEuler(f, filled(len(f), 0))
			checkNumber(t, "DivisorEuler", f, filled(len(f), 0), nil, got, ok, 1, true)
		}
	}
	atLeast(t, all, 10000)
	atLeast(t, told, 5000)
}

func TestPromise49(t *testing.T) {
	all := 0
	for _, f := range divisorFansAndNone() {
		for _, d := range divisorsAndNone(f) {
			n, ok := impl.DivisorGenus(f, d)
			if !ok {
				continue
			}
			all++
			got, ok := impl.DivisorEuler(f, divisorTimes(t, f, d, -1))
			checkNumber(t, "DivisorEuler", f, d, "times -1", got, ok, n, true)
		}
	}
	atLeast(t, all, 10000)
}
