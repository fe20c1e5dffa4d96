package impl

import (
	"slices"
	"testing"
)

func plane(coefs ...int) divisor {
	return divisor{linked([]Vec{{1, 0}, {0, 1}, {-1, -1}}), coefs}
}

func TestDivisorCheck(t *testing.T) {
	cases := []struct {
		coefs []int
		none  bool
	}{
		{[]int{0, 0, 0}, false}, {[]int{CoefMax, -CoefMax, 1}, false}, {[]int{CoefMax + 1, 0, 0}, true}, {[]int{0, 0, -CoefMax - 1}, true},
		{[]int{0, 0}, true}, {[]int{0, 0, 0, 0}, true}, {nil, true},
	}
	for _, c := range cases {
		d := plane(c.coefs...)
		if isNone(d.check()) != c.none {
			t.Errorf("check of %v returned %v", c.coefs, d.check())
		}
		if list, ok := d.told(); ok == c.none || c.none && list != nil {
			t.Errorf("told of %v returned %v, %v", c.coefs, list, ok)
		}
	}
}

func TestEvery(t *testing.T) {
	isPositive := func(n int) bool { return n > 0 }
	if !every(nil, isPositive) || !every([]int{1, 2, 3}, isPositive) {
		t.Errorf("every does not hold for numbers that are greater than 0")
	}
	if every([]int{0, 2, 3}, isPositive) || every([]int{1, 2, -3}, isPositive) {
		t.Errorf("every holds, but one number is not greater than 0")
	}
}

// Degrees are added, and taken away, where the sum of both divisors is beyond the limit.
func TestDegreesBeyondTheLimit(t *testing.T) {
	d, e := plane(CoefMax, CoefMax, CoefMax), plane(1, 2, -1)
	sum, difference := d.degree().plus(e.degree()), d.degree().minus(e.degree())
	for i := range d.size {
		if sum(i) != 302 || difference(i) != 298 {
			t.Errorf("the degrees at %d are %d and %d", i, sum(i), difference(i))
		}
	}
	if got := d.product(sum); got != 90600 {
		t.Errorf("the product is %d", got)
	}
}

func TestVectorOfDivisor(t *testing.T) {
	narrow := linked([]Vec{{1000, 999}, {-999, -998}, {-1, -1}})
	for _, c := range [][]int{{0, 0, 0}, {1, 0, 5}, {0, 1, 0}, {200, -200, 3}, {-7, 60, 1}} {
		for _, f := range []*fan{narrow, linked([]Vec{{0, 1}, {-1, -1}, {1, 0}})} {
			d := divisor{f, c}
			for i := range f.size {
				m, l := d.vectorAt(i), f.at(i)
				if m.product(l.ray) != c[i] || m.product(l.behind.ray) != c[(i+1)%f.size] {
					t.Errorf("the vector of %v at %d is %v", c, i, m)
				}
			}
			if plain := d.plain(); plain.coefs[0] != 0 || plain.coefs[1] != 0 || !d.minus(plain).isTrivial() {
				t.Errorf("%v made plain is %v", c, plain.coefs)
			}
		}
	}
}

// The fan of a divisor is shared by what is made of it, the coefficients are not.
func TestDivisorsMadeOfDivisors(t *testing.T) {
	d, e := plane(1, -2, 3), plane(4, 5, 6)
	cases := []struct {
		made divisor
		due  []int
	}{
		{d.plus(e), []int{5, 3, 9}}, {d.minus(e), []int{-3, -7, -3}}, {d.times(-3), []int{-3, 6, -9}}, {d.times(0), []int{0, 0, 0}},
		{d.plain(), []int{0, 0, 2}}, {d.canonical(), []int{-1, -1, -1}}, {d.trivial(Vec{2, 5}), []int{2, 5, -7}},
	}
	for _, c := range cases {
		if c.made.fan != d.fan || !slices.Equal(c.made.coefs, c.due) {
			t.Errorf("the coefficients are %v, not %v", c.made.coefs, c.due)
		}
		c.made.coefs[0] = 99
	}
	if !slices.Equal(d.coefs, []int{1, -2, 3}) || !slices.Equal(e.coefs, []int{4, 5, 6}) {
		t.Errorf("the coefficients were changed to %v and %v", d.coefs, e.coefs)
	}
}
