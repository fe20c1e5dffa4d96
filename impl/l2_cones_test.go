package impl

import (
	"slices"
	"testing"
)

// A base may be left early, and ranged over again.
func TestBaseLeftEarly(t *testing.T) {
	c := Cone{Vec{1, 0}, Vec{4, 7}}
	all := slices.Collect(c.base())
	for n := range all {
		var list []Vec
		for a := range c.base() {
			list = append(list, a)
			if len(list) == n+1 {
				break
			}
		}
		if !slices.Equal(list, all[:n+1]) {
			t.Errorf("the first %d vectors of the base are %v", n+1, list)
		}
	}
}

func TestPartner(t *testing.T) {
	for x := -60; x <= 60; x++ {
		for y := -60; y <= 60; y++ {
			a := Vec{x, y}
			if b := a.partner(); a.isPrimitive() && a.product(b) != 1 {
				t.Errorf("the partner of %v is %v", a, b)
			}
		}
	}
}

func TestRest(t *testing.T) {
	cases := []struct{ a, n, due int }{
		{0, 1, 0}, {-7, 1, 0}, {7, 5, 2}, {-7, 5, 3}, {-5, 5, 0}, {4, 5, 4}, {-1, 2000000, 1999999},
	}
	for _, c := range cases {
		if got := rest(c.a, c.n); got != c.due {
			t.Errorf("rest(%d, %d) returned %d", c.a, c.n, got)
		}
	}
}

func TestIsPrimitive(t *testing.T) {
	cases := []struct {
		a   Vec
		due bool
	}{
		{Vec{}, false}, {Vec{1, 0}, true}, {Vec{0, -1}, true}, {Vec{-2, 0}, false}, {Vec{0, 2}, false},
		{Vec{-3, 2}, true}, {Vec{-4, 6}, false}, {Vec{1000, -999}, true}, {Vec{1000, 998}, false},
	}
	for _, c := range cases {
		if c.a.isPrimitive() != c.due {
			t.Errorf("isPrimitive of %v is not %v", c.a, c.due)
		}
	}
}
