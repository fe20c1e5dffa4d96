package tests

import (
	"testing"

	"loop.example/toricfans/impl"
)

// anyMats has matrices and what is none.
func anyMats() []Mat {
	return append(append(goodMats(), badMats()...), smallMats()...)
}

func TestMatIn(t *testing.T) {
	for _, m := range anyMats() {
		if got := impl.MatIn(m); got != isMat(m) {
			t.Errorf("MatIn(%v) returned %v", m, got)
		}
	}
	for _, m := range badMats() {
		if impl.MatIn(m) {
			t.Errorf("MatIn holds for %v", m)
		}
	}
	for _, a := range anyVecs() {
		for _, b := range anyVecs() {
			m := Mat{A: a.X, B: a.Y, C: b.X, D: b.Y}
			if got := impl.MatIn(m); got != isMat(m) {
				t.Errorf("MatIn(%v) returned %v", m, got)
			}
		}
	}
}

func TestMatMove(t *testing.T) {
	vecs := append(anyVecs(), goodVecs()...)
	for _, m := range append(goodMats(), badMats()...) {
		for _, a := range vecs {
			got, ok := impl.MatMove(m, a)
			due := Vec{X: m.A*a.X + m.B*a.Y, Y: m.C*a.X + m.D*a.Y}
			checkVec(t, "MatMove", m, a, got, ok, due, isMat(m) && isVec(a))
		}
	}
}

func TestMatMoveLeavesTheRange(t *testing.T) {
	shear := Mat{A: 1, B: 1, C: 0, D: 1}
	turned := Mat{A: 1, B: 0, C: -1, D: -1}
	cases := []struct {
		m   Mat
		a   Vec
		due Vec
	}{
		{shear, Vec{X: 600, Y: 400}, Vec{X: 1000, Y: 400}},
		{shear, Vec{X: 600, Y: 401}, Vec{X: 1001, Y: 401}},
		{turned, Vec{X: 400, Y: 600}, Vec{X: 400, Y: -1000}},
		{turned, Vec{X: 401, Y: 600}, Vec{X: 401, Y: -1001}},
		{Mat{A: 1000, B: 999, C: 1, D: 1}, Vec{X: 1000, Y: 1000}, Vec{X: 1999000, Y: 2000}},
	}
	for _, c := range cases {
		got, ok := impl.MatMove(c.m, c.a)
		checkVec(t, "MatMove", c.m, c.a, got, ok, c.due, true)
	}
}

// matProduct returns the product of two matrices, row by column.
func matProduct(m Mat, n Mat) Mat {
	return Mat{
		A: m.A*n.A + m.B*n.C, B: m.A*n.B + m.B*n.D,
		C: m.C*n.A + m.D*n.C, D: m.C*n.B + m.D*n.D,
	}
}

// checkMat compares a result with the matrix that is due if the arguments are valid.
func checkMat(t *testing.T, name string, m, n Mat, got Mat, ok bool, due Mat, valid bool) {
	t.Helper()
	valid = valid && isMat(due)
	if !valid {
		due = Mat{}
	}
	if ok != valid || got != due {
		t.Errorf("%s(%v, %v) returned %v, %v, not %v, %v", name, m, n, got, ok, due, valid)
	}
}

func TestMatTimes(t *testing.T) {
	mats := append(goodMats(), badMats()...)
	for _, m := range mats {
		for _, n := range mats {
			got, ok := impl.MatTimes(m, n)
			checkMat(t, "MatTimes", m, n, got, ok, matProduct(m, n), isMat(m) && isMat(n))
		}
	}
}

func TestMatTimesLeavesTheRange(t *testing.T) {
	cases := []struct {
		m, n, due Mat
		ok        bool
	}{
		{Mat{A: 1, B: 600, C: 0, D: 1}, Mat{A: 1, B: 400, C: 0, D: 1}, Mat{A: 1, B: 1000, C: 0, D: 1}, true},
		{Mat{A: 1, B: 600, C: 0, D: 1}, Mat{A: 1, B: 401, C: 0, D: 1}, Mat{}, false},
		{Mat{A: 1, B: 0, C: -600, D: 1}, Mat{A: 1, B: 0, C: -400, D: 1}, Mat{A: 1, B: 0, C: -1000, D: 1}, true},
		{Mat{A: 1, B: 0, C: -600, D: 1}, Mat{A: 1, B: 0, C: -401, D: 1}, Mat{}, false},
		{Mat{A: 1000, B: 999, C: 1, D: 1}, Mat{A: 1, B: 0, C: 1, D: 1}, Mat{}, false},
		{Mat{A: 1, B: 1, C: 0, D: 1}, Mat{A: 1, B: 1, C: 999, D: 1000}, Mat{}, false},
	}
	for _, c := range cases {
		if got, ok := impl.MatTimes(c.m, c.n); ok != c.ok || got != c.due {
			t.Errorf("MatTimes(%v, %v) returned %v, %v", c.m, c.n, got, ok)
		}
	}
}

// The order of both matrices matters: the second one moves first.
func TestMatTimesOrder(t *testing.T) {
	quarter := Mat{A: 0, B: -1, C: 1, D: 0}
	shear := Mat{A: 1, B: 1, C: 0, D: 1}
	if got, ok := impl.MatTimes(quarter, shear); !ok || got != (Mat{A: 0, B: -1, C: 1, D: 1}) {
		t.Errorf("MatTimes returned %v, %v", got, ok)
	}
	if got, ok := impl.MatTimes(shear, quarter); !ok || got != (Mat{A: 1, B: -1, C: 1, D: 0}) {
		t.Errorf("MatTimes returned %v, %v", got, ok)
	}
}

func TestMatTurned(t *testing.T) {
	for _, m := range anyMats() {
		d := m.A*m.D - m.B*m.C
		got, ok := impl.MatTurned(m)
		checkMat(t, "MatTurned", m, Mat{}, got, ok, Mat{A: d * m.D, B: -d * m.B, C: -d * m.C, D: d * m.A}, isMat(m))
	}
}
