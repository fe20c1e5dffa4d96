package tests

import (
	"math"
	"slices"
	"testing"

	"loop.example/toricfans/impl"
)

// vectorOf returns the vector whose products with a ray and the next one are the numbers there. Their cone is smooth, so that there is just one.
func vectorOf(f Fan, d Divisor, i int) Vec {
	u, v := f[i], nextOf(f, i)
	p, q := d[i], d[(i+1)%len(f)]
	return Vec{X: p*v.Y - q*u.Y, Y: q*u.X - p*v.X}
}

// areEquivalent looks at the last ray and the first one for the vector, while the program looks at the first two.
func areEquivalent(f Fan, a, b Divisor) bool {
	difference := plus(a, times(b, -1))
	return slices.Equal(difference, productsWith(f, vectorOf(f, difference, len(f)-1)))
}

func checkEquivalent(t *testing.T, f Fan, a, b Divisor, due bool) {
	t.Helper()
	if got := impl.DivisorEquivalent(f, a, b); got != due {
		t.Errorf("DivisorEquivalent(%v, %v, %v) returned %v", f, a, b, got)
	}
	if got := impl.DivisorEquivalent(f, b, a); got != due {
		t.Errorf("DivisorEquivalent(%v, %v, %v) returned %v", f, b, a, got)
	}
}

func TestDivisorEquivalent(t *testing.T) {
	for _, f := range divisorFans() {
		for _, pair := range coefPairs(f) {
			a, b := pair[0], pair[1]
			checkEquivalent(t, f, a, b, hasCoefs(f, a) && hasCoefs(f, b) && areEquivalent(f, a, b))
		}
	}
}

// shifts has vectors by which divisors may differ; those near the limit, and beyond it, are for narrow fans.
func shifts(f Fan) []Vec {
	list := goodVecs()
	for i := range f {
		u, v := f[i], nextOf(f, i)
		for _, n := range []int{1, 7, 100, 200, -200} {
			list = append(list, Vec{X: n * v.Y, Y: -n * v.X}, Vec{X: -n * u.Y, Y: n * u.X}, Vec{X: n * (v.Y - u.Y), Y: n * (u.X - v.X)})
		}
	}
	return list
}

// parted returns two lists with a difference, each number of which is parted so that both are as small as they can be.
func parted(difference Divisor) (Divisor, Divisor) {
	var a, b Divisor
	for _, n := range difference {
		half := n / 2
		a, b = append(a, n-half), append(b, -half)
	}
	return a, b
}

// TestDivisorEquivalentByVectors takes vectors that are beyond their limit, or whose divisors are, and then another number at one ray.
func TestDivisorEquivalentByVectors(t *testing.T) {
	none, beyond, all := 0, 0, 0
	for _, f := range divisorFans() {
		for i, m := range shifts(f) {
			a, b := parted(productsWith(f, m))
			if !hasCoefs(f, a) || !hasCoefs(f, b) {
				continue
			}
			all++
			if !isVec(m) {
				none++
			}
			if !hasCoefs(f, productsWith(f, m)) {
				beyond++
			}
			checkEquivalent(t, f, a, b, true)
			for _, n := range []int{1, -1} {
				if other := plus(a, unit(len(f), i%len(f), n)); hasCoefs(f, other) {
					checkEquivalent(t, f, other, b, false)
				}
			}
		}
	}
	atLeast(t, none, 10)
	atLeast(t, beyond, 500)
	atLeast(t, all, 10000)
}

// TestDivisorEquivalentAtOneRay has the difference at one ray alone: no vector has the product 0 with two rays that are next ones.
func TestDivisorEquivalentAtOneRay(t *testing.T) {
	for _, f := range divisorFans() {
		for _, d := range append(mixedDivisors(len(f))[:3], filled(len(f), 0)) {
			checkEquivalent(t, f, d, d, true)
			for i := range f {
				checkEquivalent(t, f, d, with(d, i, d[i]+1), false)
				checkEquivalent(t, f, d, with(d, i, 100), false)
			}
		}
	}
}

// TestDivisorEquivalentBySearch goes through all vectors that are large enough for the small differences.
func TestDivisorEquivalentBySearch(t *testing.T) {
	found := 0
	for _, f := range []Fan{planeFan(), turnedTo(planeFan(), 2), kindFan(0), turnedTo(kindFan(1), 3), turnedTo(kindFan(-2), 1)} {
		b := mixedDivisors(len(f))[1]
		for n := range 5 * 5 * 5 * 5 {
			difference := Divisor{n%5 - 2, n/5%5 - 2, n/25%5 - 2, n/125 - 2}[:len(f)]
			due := isTrivial(f, difference, 12)
			checkEquivalent(t, f, plus(b, difference), b, due)
			if due {
				found++
			}
		}
	}
	atLeast(t, found, 50)
}

// isTrivial searches for the vector of a divisor among those with numbers up to a size.
func isTrivial(f Fan, d Divisor, size int) bool {
	for x := -size; x <= size; x++ {
		for y := -size; y <= size; y++ {
			if slices.Equal(d, productsWith(f, Vec{X: x, Y: y})) {
				return true
			}
		}
	}
	return false
}

func TestDivisorEquivalentOfSome(t *testing.T) {
	narrow := fan(1000, 999, -999, -998, -1, -1)
	cases := []struct {
		f    Fan
		a, b Divisor
		due  bool
	}{
		{planeFan(), Divisor{1, 0, 0}, Divisor{0, 0, 1}, true},
		{planeFan(), Divisor{1, 1, 1}, Divisor{3, 0, 0}, true},
		{planeFan(), Divisor{1, 1, 1}, Divisor{2, 0, 0}, false},
		{planeFan(), Divisor{100, 0, -100}, Divisor{-100, 0, 100}, true},
		{planeFan(), Divisor{100, -100, 1}, Divisor{-100, 100, 0}, false},
		{planeFan(), Divisor{100, 100, -100}, Divisor{0, 0, 100}, true},
		{planeFan(), Divisor{100, 100, -100}, Divisor{-50, 50, 100}, true},
		{planeFan(), Divisor{100, 100, -100}, Divisor{-50, 50, 99}, false},
		{kindFan(0), Divisor{1, 0, 0, 0}, Divisor{0, 0, 1, 0}, true},
		{kindFan(0), Divisor{1, 0, 0, 0}, Divisor{0, 1, 0, 0}, false},
		{kindFan(2), Divisor{0, 0, 1, 0}, Divisor{0, 0, 0, 0}, false},
		{kindFan(2), Divisor{0, 0, 0, 1}, Divisor{0, 0, 0, 0}, false},
		{kindFan(2), Divisor{0, 0, 0, 1}, Divisor{0, 1, 2, 0}, true},
		{kindFan(2), Divisor{0, 0, 0, 1}, Divisor{0, 1, 1, 0}, false},
		{kindFan(100), Divisor{0, 1, 100, -1}, Divisor{0, 0, 0, 0}, true},
		{kindFan(200), Divisor{0, 1, 100, 0}, Divisor{0, 0, -100, 1}, true},
		{narrow, Divisor{100, 0, -100}, Divisor{0, 0, 0}, true},
		{narrow, Divisor{0, 100, 0}, Divisor{0, 0, 100}, true},
		{narrow, Divisor{100, 100, -100}, Divisor{-100, 100, 100}, true},
		{narrow, Divisor{100, -100, 7}, Divisor{-100, 100, 7}, true},
		{narrow, Divisor{100, -100, 7}, Divisor{-100, 100, 8}, false},
		{narrow, Divisor{1, 0, 0}, Divisor{0, 0, 0}, false},
		{planeFan(), Divisor{101, 0, 0}, Divisor{101, 0, 0}, false},
		{planeFan(), Divisor{0, 0, 0}, Divisor{101, 0, -101}, false},
		{planeFan(), Divisor{0, 0, 0}, Divisor{0, 0}, false},
		{planeFan(), Divisor{0, 0, 0, 0}, Divisor{0, 0, 0, 0}, false},
		{planeFan(), Divisor{math.MinInt, 0, 0}, Divisor{math.MinInt, 0, 0}, false},
		{planeFan(), Divisor{math.MinInt, 0, math.MaxInt}, Divisor{0, 0, -1}, false},
		{planeFan(), nil, nil, false},
		{fan(1, 0, 0, 1, -1, -2), Divisor{0, 0, 0}, Divisor{0, 0, 0}, false},
		{reversedFan(planeFan()), Divisor{0, 0, 0}, Divisor{0, 0, 0}, false},
		{nil, nil, nil, false},
	}
	for _, c := range cases {
		checkEquivalent(t, c.f, c.a, c.b, c.due)
	}
}

// plainOf takes away the products of the vector that has those with the first two rays.
func plainOf(f Fan, d Divisor) Divisor {
	return plus(d, times(productsWith(f, vectorOf(f, d, 0)), -1))
}

func TestDivisorPlain(t *testing.T) {
	within, beyond := 0, 0
	for _, f := range divisorFans() {
		for _, d := range divisorsAndNone(f) {
			valid := hasCoefs(f, d)
			var due Divisor
			if valid {
				due = plainOf(f, d)
				if due[0] != 0 || due[1] != 0 || !areEquivalent(f, d, due) {
					t.Fatalf("%v is not due for %v of %v", due, d, f)
				}
				switch greatest(due) {
				case 100:
					within++
				case 101:
					beyond++
				}
			}
			got, ok := impl.DivisorPlain(f, d)
			checkDivisor(t, "DivisorPlain", f, d, nil, got, ok, due, valid && hasCoefs(f, due))
		}
	}
	atLeast(t, within, 200)
	atLeast(t, beyond, 10)
}

// TestDivisorPlainAtTheLimit makes each number of the plain divisor 100 and 101 in size, by adding the products of vectors.
func TestDivisorPlainAtTheLimit(t *testing.T) {
	all := 0
	vecs := goodVecs()
	for _, f := range divisorFans() {
		for i := 2; i < len(f); i++ {
			for j, n := range []int{100, 101, -100, -101, 150, -150} {
				due := unit(len(f), i, n)
				for k := (i + j) % 7; k < len(vecs); k += 7 {
					m := vecs[k]
					d := plus(due, productsWith(f, m))
					if !hasCoefs(f, d) {
						continue
					}
					all++
					got, ok := impl.DivisorPlain(f, d)
					checkDivisor(t, "DivisorPlain", f, d, nil, got, ok, due, inCoef(n))
				}
			}
		}
	}
	atLeast(t, all, 10000)
}

func TestDivisorPlainOfSome(t *testing.T) {
	narrow := fan(1000, 999, -999, -998, -1, -1)
	cases := []struct {
		f      Fan
		d, due Divisor
	}{
		{planeFan(), Divisor{1, 2, 3}, Divisor{0, 0, 6}},
		{planeFan(), Divisor{0, 0, -7}, Divisor{0, 0, -7}},
		{planeFan(), Divisor{50, 50, 0}, Divisor{0, 0, 100}},
		{planeFan(), Divisor{50, 50, 1}, nil},
		{planeFan(), Divisor{100, 100, -100}, Divisor{0, 0, 100}},
		{planeFan(), Divisor{100, 100, -99}, nil},
		{planeFan(), Divisor{-100, -100, 100}, Divisor{0, 0, -100}},
		{planeFan(), Divisor{-100, -100, 99}, nil},
		{planeFan(), Divisor{100, 100, 100}, nil},
		{kindFan(2), Divisor{1, 2, 3, 4}, Divisor{0, 0, 0, 6}},
		{turnedTo(kindFan(2), 1), Divisor{2, 3, 4, 1}, Divisor{0, 0, 6, 0}},
		{turnedTo(kindFan(2), 2), Divisor{3, 4, 1, 2}, Divisor{0, 0, 12, 6}},
		{turnedTo(kindFan(2), 3), Divisor{4, 1, 2, 3}, Divisor{0, 0, 6, 12}},
		{kindFan(1000), Divisor{50, 0, 50, 3}, Divisor{0, 0, 100, 3}},
		{kindFan(1000), Divisor{50, 0, 51, 3}, nil},
		{kindFan(1000), Divisor{0, 1, 0, 0}, nil},
		{narrow, Divisor{30, 40, 30}, Divisor{0, 0, 100}},
		{narrow, Divisor{30, 40, 31}, nil},
		{narrow, Divisor{100, -100, -100}, Divisor{0, 0, -100}},
		{planeFan(), Divisor{101, 0, -101}, nil},
		{planeFan(), Divisor{0, 0, 101}, nil},
		{planeFan(), Divisor{0, 0}, nil},
		{planeFan(), Divisor{0, 0, 0, 0}, nil},
		{planeFan(), Divisor{math.MinInt, 0, math.MinInt}, nil},
		{planeFan(), Divisor{math.MaxInt, math.MaxInt, 2}, nil},
		{planeFan(), nil, nil},
		{fan(1, 0, 0, 1, -1, -2), Divisor{0, 0, 0}, nil},
		{reversedFan(planeFan()), Divisor{0, 0, 0}, nil},
		{nil, nil, nil},
	}
	for _, c := range cases {
		got, ok := impl.DivisorPlain(c.f, c.d)
		checkDivisor(t, "DivisorPlain", c.f, c.d, nil, got, ok, c.due, c.due != nil)
	}
}
