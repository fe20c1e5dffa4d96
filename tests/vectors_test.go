package tests

import (
	"math"
	"testing"

	"loop.example/toricfans/impl"
)

func TestLimit(t *testing.T) {
	if impl.SizeMax != 1000 {
		t.Errorf("SizeMax is %d", impl.SizeMax)
	}
}

func TestVecIn(t *testing.T) {
	for _, a := range anyVecs() {
		if got := impl.VecIn(a); got != isVec(a) {
			t.Errorf("VecIn(%v) returned %v", a, got)
		}
	}
}

// checkVec compares a result with the vector that is due if the arguments are valid.
func checkVec(t *testing.T, name string, a, b any, got Vec, ok bool, due Vec, valid bool) {
	t.Helper()
	valid = valid && isVec(due)
	if !valid {
		due = Vec{}
	}
	if ok != valid || got != due {
		t.Errorf("%s(%v, %v) returned %v, %v, not %v, %v", name, a, b, got, ok, due, valid)
	}
}

// checkInt is as checkVec for a number, which has no range.
func checkInt(t *testing.T, name string, a, b Vec, got int, ok bool, due int, valid bool) {
	t.Helper()
	if !valid {
		due = 0
	}
	if ok != valid || got != due {
		t.Errorf("%s(%v, %v) returned %d, %v, not %d, %v", name, a, b, got, ok, due, valid)
	}
}

func TestOfTwoVectors(t *testing.T) {
	for _, a := range anyVecs() {
		for _, b := range anyVecs() {
			valid := isVec(a) && isVec(b)
			sum, ok := impl.VecAdd(a, b)
			checkVec(t, "VecAdd", a, b, sum, ok, Vec{X: a.X + b.X, Y: a.Y + b.Y}, valid)
			det, ok := impl.VecDet(a, b)
			checkInt(t, "VecDet", a, b, det, ok, a.X*b.Y-a.Y*b.X, valid)
			product, ok := impl.VecProduct(a, b)
			checkInt(t, "VecProduct", a, b, product, ok, a.X*b.X+a.Y*b.Y, valid)
		}
	}
}

func TestVecAddLeavesTheRange(t *testing.T) {
	cases := []struct{ a, b, due Vec }{
		{Vec{X: 600, Y: -600}, Vec{X: 400, Y: -400}, Vec{X: 1000, Y: -1000}},
		{Vec{X: 601, Y: -600}, Vec{X: 400, Y: -400}, Vec{X: 1001, Y: -1000}},
		{Vec{X: 600, Y: -601}, Vec{X: 400, Y: -400}, Vec{X: 1000, Y: -1001}},
		{Vec{X: -1000, Y: 1000}, Vec{X: -1, Y: -1}, Vec{X: -1001, Y: 999}},
		{Vec{X: 1000, Y: 1000}, Vec{X: -1000, Y: 1}, Vec{X: 0, Y: 1001}},
	}
	for _, c := range cases {
		got, ok := impl.VecAdd(c.a, c.b)
		checkVec(t, "VecAdd", c.a, c.b, got, ok, c.due, true)
	}
}

func TestVecTimes(t *testing.T) {
	numbers := append(edgeNumbers(), 4, 250, 251, 334, -334, -333, 333)
	for _, a := range append(anyVecs(), goodVecs()...) {
		for _, n := range numbers {
			got, ok := impl.VecTimes(a, n)
			checkVec(t, "VecTimes", a, n, got, ok, Vec{X: a.X * n, Y: a.Y * n}, isVec(a) && inRange(n))
		}
	}
}

// dividesBoth reports whether a number divides both numbers of a vector.
func dividesBoth(n int, a Vec) bool {
	return a.X%n == 0 && a.Y%n == 0
}

func TestVecPrimitive(t *testing.T) {
	for _, a := range append(anyVecs(), goodVecs()...) {
		got, n, ok := impl.VecPrimitive(a)
		if !isVec(a) || a == (Vec{}) {
			if ok || n != 0 || got != (Vec{}) {
				t.Errorf("VecPrimitive(%v) returned %v, %d, %v", a, got, n, ok)
			}
			continue
		}
		due := 1000
		for !dividesBoth(due, a) {
			due--
		}
		if !ok || n != due || got != (Vec{X: a.X / due, Y: a.Y / due}) {
			t.Errorf("VecPrimitive(%v) returned %v, %d, %v", a, got, n, ok)
		}
	}
}

func TestVecTurn(t *testing.T) {
	for _, a := range anyVecs() {
		got, ok := impl.VecTurn(a)
		checkVec(t, "VecTurn", a, nil, got, ok, Vec{X: -a.Y, Y: a.X}, isVec(a))
	}
}

// directions has the directions in the order in which they are met, many of them at the turn or at a half turn.
func directions() []Vec {
	return []Vec{
		{X: 1, Y: 0}, {X: 1000, Y: 1}, {X: 999, Y: 1}, {X: 2, Y: 1}, {X: 999, Y: 998}, {X: 1000, Y: 999}, {X: 1, Y: 1},
		{X: 1, Y: 2}, {X: 1, Y: 999}, {X: 1, Y: 1000}, {X: 0, Y: 1}, {X: -1, Y: 1000}, {X: -1, Y: 1}, {X: -999, Y: 1},
		{X: -1000, Y: 1}, {X: -1, Y: 0}, {X: -1000, Y: -1}, {X: -999, Y: -1}, {X: -1, Y: -1}, {X: -1, Y: -1000},
		{X: 0, Y: -1}, {X: 1, Y: -1000}, {X: 1, Y: -1}, {X: 1000, Y: -999}, {X: 999, Y: -1}, {X: 1000, Y: -1},
	}
}

// multiples has a vector, and its other multiples that are wanted here, as far as they are vectors.
func multiples(a Vec) []Vec {
	var list []Vec
	for _, n := range []int{1, 2, 3, 1000} {
		if b := (Vec{X: a.X * n, Y: a.Y * n}); isVec(b) {
			list = append(list, b)
		}
	}
	return list
}

func TestVecAheadAtTheTurn(t *testing.T) {
	for i, first := range directions() {
		for k, second := range directions() {
			for _, a := range multiples(first) {
				for _, b := range multiples(second) {
					if got := impl.VecAhead(a, b); got != (i < k) {
						t.Errorf("VecAhead(%v, %v) returned %v", a, b, got)
					}
				}
			}
		}
	}
}

// angle returns the angle of a direction from 0 to just below a full turn.
func angle(a Vec) float64 {
	g := math.Atan2(float64(a.Y), float64(a.X))
	if a.Y < 0 {
		g += 2 * math.Pi
	}
	return g
}

func TestVecAheadByAngle(t *testing.T) {
	const same = 1e-9 // far less than the angle between two directions
	for _, a := range goodVecs() {
		for _, b := range goodVecs() {
			due := a != (Vec{}) && b != (Vec{}) && angle(b)-angle(a) > same
			if got := impl.VecAhead(a, b); got != due {
				t.Errorf("VecAhead(%v, %v) returned %v", a, b, got)
			}
		}
	}
}

func TestVecAheadOfOppositeAndSame(t *testing.T) {
	for _, a := range goodVecs() {
		if a == (Vec{}) {
			continue
		}
		opposite := Vec{X: -a.X, Y: -a.Y}
		first := a.Y > 0 || a.Y == 0 && a.X > 0
		if impl.VecAhead(a, opposite) != first || impl.VecAhead(opposite, a) == first {
			t.Errorf("VecAhead of %v and the opposite is wrong", a)
		}
		for _, b := range multiples(a) {
			if impl.VecAhead(a, b) || impl.VecAhead(b, a) {
				t.Errorf("VecAhead holds for %v and %v", a, b)
			}
		}
	}
}

func TestVecAheadOfNone(t *testing.T) {
	for _, none := range append(badVecs(), Vec{}) {
		for _, a := range append(append(directions(), badVecs()...), Vec{}) {
			if impl.VecAhead(none, a) || impl.VecAhead(a, none) {
				t.Errorf("VecAhead holds for %v and %v", none, a)
			}
		}
	}
}
