package tests

import (
	"testing"

	"loop.example/toricfans/impl"
)

// These tests hold the functions of chapter 1 against each other, promise by promise.
// Each one counts how often its condition holds, lest it pass because nothing succeeds.

func atLeast(t *testing.T, times int, least int) {
	t.Helper()
	if times < least {
		t.Errorf("the condition of the promise holds only %d times", times)
	}
}

func vecAdd(t *testing.T, a, b Vec) Vec {
	t.Helper()
	sum, ok := impl.VecAdd(a, b)
	if !ok {
		t.Errorf("VecAdd(%v, %v) failed", a, b)
	}
	return sum
}

func vecTimes(t *testing.T, a Vec, n int) Vec {
	t.Helper()
	b, ok := impl.VecTimes(a, n)
	if !ok {
		t.Errorf("VecTimes(%v, %d) failed", a, n)
	}
	return b
}

func vecDet(t *testing.T, a, b Vec) int {
	t.Helper()
	d, ok := impl.VecDet(a, b)
	if !ok {
		t.Errorf("VecDet(%v, %v) failed", a, b)
	}
	return d
}

func vecProduct(t *testing.T, a, b Vec) int {
	t.Helper()
	d, ok := impl.VecProduct(a, b)
	if !ok {
		t.Errorf("VecProduct(%v, %v) failed", a, b)
	}
	return d
}

func vecTurn(t *testing.T, a Vec) Vec {
	t.Helper()
	b, ok := impl.VecTurn(a)
	if !ok {
		t.Errorf("VecTurn(%v) failed", a)
	}
	return b
}

func matTurned(t *testing.T, m Mat) Mat {
	t.Helper()
	n, ok := impl.MatTurned(m)
	if !ok {
		t.Errorf("MatTurned(%v) failed", m)
	}
	return n
}

func matMove(t *testing.T, m Mat, a Vec) Vec {
	t.Helper()
	b, ok := impl.MatMove(m, a)
	if !ok {
		t.Errorf("MatMove(%v, %v) failed", m, a)
	}
	return b
}

func TestPromise1(t *testing.T) {
	times := 0
	for _, a := range append(goodVecs(), badVecs()...) {
		if !impl.VecIn(a) {
			continue
		}
		times++
		if sum := vecAdd(t, a, vecTimes(t, a, -1)); sum != (Vec{}) {
			t.Errorf("%v and its opposite add up to %v", a, sum)
		}
	}
	atLeast(t, times, len(goodVecs()))
}

func TestPromise2(t *testing.T) {
	times := 0
	for _, a := range goodVecs() {
		for _, b := range goodVecs() {
			sum, ok := impl.VecAdd(a, b)
			if !ok {
				continue
			}
			times++
			if vecAdd(t, b, a) != sum || vecDet(t, sum, a) != vecDet(t, b, a) {
				t.Errorf("the sum of %v and %v is %v", a, b, sum)
			}
		}
	}
	atLeast(t, times, 30000)
}

func TestPromise3(t *testing.T) {
	times := 0
	for _, a := range goodVecs() {
		for n := -1000; n <= 1000; n++ {
			b, ok := impl.VecTimes(a, n)
			if !ok {
				continue
			}
			times++
			if vecDet(t, b, a) != 0 {
				t.Errorf("%v times %d is %v", a, n, b)
			}
			if more, ok := impl.VecTimes(a, n+1); ok && more != vecAdd(t, b, a) {
				t.Errorf("%v times %d is %v", a, n+1, more)
			}
		}
	}
	atLeast(t, times, 10000)
}

func TestPromise4(t *testing.T) {
	times := 0
	for _, a := range goodVecs() {
		for _, b := range goodVecs() {
			d, ok := impl.VecDet(a, b)
			if !ok {
				continue
			}
			times++
			if vecDet(t, b, a) != -d || vecProduct(t, vecTurn(t, a), b) != d {
				t.Errorf("the determinant of %v and %v is %d", a, b, d)
			}
		}
	}
	atLeast(t, times, len(goodVecs())*len(goodVecs()))
}

func TestPromise5(t *testing.T) {
	times := 0
	for _, a := range goodVecs() {
		for _, b := range goodVecs() {
			p, ok := impl.VecProduct(a, b)
			if !ok {
				continue
			}
			times++
			d := vecDet(t, a, b)
			if vecProduct(t, b, a) != p || p*p+d*d != vecProduct(t, a, a)*vecProduct(t, b, b) {
				t.Errorf("the product of %v and %v is %d", a, b, p)
			}
		}
	}
	atLeast(t, times, len(goodVecs())*len(goodVecs()))
}

func TestPromise6(t *testing.T) {
	times := 0
	for _, a := range goodVecs() {
		p, n, ok := impl.VecPrimitive(a)
		if !ok {
			continue
		}
		times++
		if vecTimes(t, p, n) != a {
			t.Errorf("%v is not %v times %d", a, p, n)
		}
		if again, one, ok := impl.VecPrimitive(p); !ok || again != p || one != 1 {
			t.Errorf("VecPrimitive(%v) returned %v, %d, %v", p, again, one, ok)
		}
	}
	atLeast(t, times, len(goodVecs())-1)
}

func TestPromise7(t *testing.T) {
	times := 0
	for _, a := range goodVecs() {
		one, ok := impl.VecTurn(a)
		if !ok {
			continue
		}
		times++
		two := vecTurn(t, one)
		if two != vecTimes(t, a, -1) || vecTurn(t, vecTurn(t, two)) != a {
			t.Errorf("two turns of %v are %v", a, two)
		}
	}
	atLeast(t, times, len(goodVecs()))
}

func TestPromise8(t *testing.T) {
	times := 0
	for _, a := range goodVecs() {
		for _, b := range goodVecs() {
			if !impl.VecAhead(a, b) {
				continue
			}
			times++
			if impl.VecAhead(b, a) || impl.VecAhead(a, a) || impl.VecAhead(b, b) {
				t.Errorf("VecAhead holds for %v and %v, and not only this way", a, b)
			}
		}
	}
	atLeast(t, times, 15000)
}

func TestPromise9(t *testing.T) {
	times := 0
	still := Mat{A: 1, B: 0, C: 0, D: 1}
	for _, m := range anyMats() {
		if !impl.MatIn(m) {
			continue
		}
		times++
		back := matTurned(t, m)
		left, ok := impl.MatTimes(back, m)
		if !ok || left != still {
			t.Errorf("%v times %v is %v, %v", back, m, left, ok)
		}
		right, ok := impl.MatTimes(m, back)
		if !ok || right != still {
			t.Errorf("%v times %v is %v, %v", m, back, right, ok)
		}
	}
	atLeast(t, times, len(goodMats()))
}

func TestPromise10(t *testing.T) {
	times := 0
	for _, m := range goodMats() {
		for _, a := range goodVecs() {
			b, ok := impl.MatMove(m, a)
			if !ok {
				continue
			}
			times++
			if back := matMove(t, matTurned(t, m), b); back != a {
				t.Errorf("%v moves %v to %v, and this is moved back to %v", m, a, b, back)
			}
			_, before, _ := impl.VecPrimitive(a)
			_, behind, _ := impl.VecPrimitive(b)
			if before != behind {
				t.Errorf("%v moves %v to %v", m, a, b)
			}
		}
	}
	atLeast(t, times, 10000)
}

func TestPromise11(t *testing.T) {
	times := 0
	a := Vec{X: 2, Y: 3}
	for _, m := range goodMats() {
		for _, n := range goodMats() {
			both, ok := impl.MatTimes(m, n)
			if !ok {
				continue
			}
			times++
			first, firstOk := impl.MatMove(n, a)
			second, secondOk := impl.MatMove(m, first)
			direct, directOk := impl.MatMove(both, a)
			if firstOk && secondOk && (!directOk || direct != second) {
				t.Errorf("%v times %v moves %v to %v", m, n, a, direct)
			}
			if det(both) != det(m)*det(n) {
				t.Errorf("%v times %v is %v", m, n, both)
			}
		}
	}
	atLeast(t, times, 10000)
}

func det(m Mat) int {
	return m.A*m.D - m.B*m.C
}

func TestPromise12(t *testing.T) {
	times := 0
	for _, m := range anyMats() {
		back, ok := impl.MatTurned(m)
		if !ok {
			continue
		}
		times++
		if matTurned(t, back) != m {
			t.Errorf("%v is not led back to", m)
		}
	}
	atLeast(t, times, len(goodMats()))
}
