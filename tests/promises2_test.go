package tests

import (
	"slices"
	"testing"

	"loop.example/toricfans/impl"
)

// These tests hold the functions of chapter 2 against each other, promise by promise, as those of chapter 1 do.

func coneIndex(t *testing.T, c Cone) int {
	t.Helper()
	n, ok := impl.ConeIndex(c)
	if !ok {
		t.Errorf("ConeIndex(%v) failed", c)
	}
	return n
}

func coneDual(t *testing.T, c Cone) Cone {
	t.Helper()
	dual, ok := impl.ConeDual(c)
	if !ok {
		t.Errorf("ConeDual(%v) failed", c)
	}
	return dual
}

func coneFraction(t *testing.T, c Cone) []int {
	t.Helper()
	list, ok := impl.ConeFraction(c)
	if !ok {
		t.Errorf("ConeFraction(%v) failed", c)
	}
	return list
}

func reversed(list []int) []int {
	list = slices.Clone(list)
	slices.Reverse(list)
	return list
}

func TestPromise13(t *testing.T) {
	times := 0
	for _, c := range conesAndNone() {
		if !impl.ConeIn(c) {
			continue
		}
		times++
		if !impl.ConeHas(c, c.U) || !impl.ConeHas(c, c.V) {
			t.Errorf("a ray is not in %v", c)
		}
		if sum, ok := impl.VecAdd(c.U, c.V); ok && !impl.ConeHas(c, sum) {
			t.Errorf("%v is not in %v", sum, c)
		}
	}
	atLeast(t, times, len(goodCones()))
}

func TestPromise14(t *testing.T) {
	times := 0
	for _, c := range conesAndNone() {
		n, ok := impl.ConeIndex(c)
		if !ok {
			continue
		}
		times++
		if n <= 0 || coneIndex(t, coneDual(t, c)) != n {
			t.Errorf("the index of %v is %d", c, n)
		}
	}
	atLeast(t, times, len(goodCones()))
}

func TestPromise15(t *testing.T) {
	times := 0
	for _, c := range conesAndNone() {
		for _, a := range goodVecs() {
			if !impl.ConeHas(c, a) {
				continue
			}
			times++
			dual := coneDual(t, c)
			if vecProduct(t, a, dual.U) < 0 || vecProduct(t, a, dual.V) < 0 {
				t.Errorf("%v is in %v, and the dual cone is %v", a, c, dual)
			}
		}
	}
	atLeast(t, times, 10000)
}

func TestPromise16(t *testing.T) {
	times := 0
	for _, c := range conesAndNone() {
		q, ok := impl.ConeKind(c)
		if !ok {
			continue
		}
		times++
		n := coneIndex(t, c)
		if q < 0 || q >= n || commonDivisor(n, q) != 1 {
			t.Errorf("the kind of %v is %d", c, q)
		}
		other := cone(c.V.Y, c.V.X, c.U.Y, c.U.X)
		otherKind, ok := impl.ConeKind(other)
		if !ok || n > 1 && q*otherKind%n != 1 {
			t.Errorf("the kind of %v is %d, and that of %v is %d, %v", c, q, other, otherKind, ok)
		}
	}
	atLeast(t, times, len(goodCones()))
}

func TestPromise17(t *testing.T) {
	times := 0
	for _, c := range conesAndNone() {
		base, ok := impl.ConeBase(c)
		if !ok {
			continue
		}
		times++
		list := coneFraction(t, c)
		if len(base) != len(list)+2 || base[0] != c.U || base[len(base)-1] != c.V {
			t.Errorf("the whole base of %v is %v", c, base)
			continue
		}
		for i, a := range base[1:] {
			if vecDet(t, base[i], a) != 1 {
				t.Errorf("%v is behind %v in the whole base of %v", a, base[i], c)
			}
		}
		for i, b := range list {
			a := base[i+1]
			sum := Vec{X: base[i].X + base[i+2].X, Y: base[i].Y + base[i+2].Y}
			if sum != (Vec{X: b * a.X, Y: b * a.Y}) {
				t.Errorf("the neighbours of %v in the whole base of %v add up to %v", a, c, sum)
			}
		}
	}
	atLeast(t, times, len(goodCones()))
}

// FractionValue is not told of long lists nor of great numbers, so the fraction is held against numbersOf as well.
func TestPromise18(t *testing.T) {
	times := 0
	for _, c := range conesAndNone() {
		list, ok := impl.ConeFraction(c)
		if !ok || len(list) == 0 {
			continue
		}
		times++
		index := coneIndex(t, c)
		kind, _ := impl.ConeKind(c)
		if n, q, ok := impl.FractionValue(list); ok != isValued(list) || ok && (n != index || q != kind) {
			t.Errorf("FractionValue(%v) returned %d, %d, %v", list, n, q, ok)
		}
		n, q := numbersOf(list)
		if n.Int64() != int64(index) || q.Int64() != int64(kind) || slices.Min(list) < 2 {
			t.Errorf("the fraction of %v is %v", c, list)
		}
	}
	atLeast(t, times, 900)
}

func TestPromise19(t *testing.T) {
	times := 0
	for _, c := range conesAndNone() {
		dual, ok := impl.ConeDual(c)
		if !ok {
			continue
		}
		times++
		if coneDual(t, dual) != c {
			t.Errorf("%v is not led back to", c)
		}
	}
	atLeast(t, times, len(goodCones()))
}

func TestPromise20(t *testing.T) {
	times := 0
	for _, c := range someCones() {
		for _, m := range goodMats() {
			moved, ok := impl.ConeMove(c, m)
			if !ok {
				continue
			}
			times++
			due := coneFraction(t, c)
			if det(m) == -1 {
				due = reversed(due)
			}
			if coneIndex(t, moved) != coneIndex(t, c) || !slices.Equal(coneFraction(t, moved), due) {
				t.Errorf("%v moves %v to %v", m, c, moved)
			}
		}
	}
	atLeast(t, times, 10000)
}

func TestPromise21(t *testing.T) {
	times := 0
	for _, c := range conesAndNone() {
		for _, a := range goodVecs() {
			p, q, ok := impl.ConeParts(c, a)
			if !ok {
				continue
			}
			times++
			n := coneIndex(t, c)
			sum := Vec{X: p*c.U.X + q*c.V.X, Y: p*c.U.Y + q*c.V.Y}
			if p < 0 || q < 0 || sum != (Vec{X: n * a.X, Y: n * a.Y}) {
				t.Errorf("the parts of %v in %v are %d and %d", a, c, p, q)
			}
		}
	}
	atLeast(t, times, 10000)
}

// pairs has two numbers each, with a fraction and without.
func pairs() [][2]int {
	var list [][2]int
	for n := -1; n <= 120; n++ {
		for q := -1; q <= n+1; q++ {
			list = append(list, [2]int{n, q})
		}
	}
	for q := 1; q <= 10000; q += 7 {
		list = append(list, [2]int{9999, q}, [2]int{10000, q}, [2]int{10001, q})
	}
	return list
}

// In the opposite order a fraction is that of the same n and another q, so FractionOf tells it of long lists, too.
func TestPromise22(t *testing.T) {
	times := 0
	for _, x := range pairs() {
		list, ok := impl.FractionOf(x[0], x[1])
		if !ok {
			continue
		}
		times++
		if slices.Min(list) < 2 {
			t.Errorf("FractionOf(%d, %d) returned %v", x[0], x[1], list)
		}
		if n, q, ok := impl.FractionValue(list); ok && (n != x[0] || q != x[1]) {
			t.Errorf("FractionValue(%v) returned %d, %d", list, n, q)
		}
		back := reversed(list)
		if n, _, ok := impl.FractionValue(back); ok != isValued(list) || ok && n != x[0] {
			t.Errorf("FractionValue(%v) returned %d, %v", back, n, ok)
		}
		if n, q := numbersOf(back); n.Int64() != int64(x[0]) || !slices.Equal(fractionOf(x[0], int(q.Int64())), back) {
			t.Errorf("FractionOf(%d, %d) returned %v", x[0], x[1], list)
		}
	}
	atLeast(t, times, 5000)
}

func TestPromise23(t *testing.T) {
	times := 0
	for _, list := range append(variedLists(), badLists()...) {
		n, q, ok := impl.FractionValue(list)
		if !ok || n > 10000 {
			continue
		}
		times++
		if got, ok := impl.FractionOf(n, q); !ok || !slices.Equal(got, list) {
			t.Errorf("FractionOf(%d, %d) returned %v, %v, not %v", n, q, got, ok, list)
		}
	}
	atLeast(t, times, 500)
}

// sumOf returns the sum of the numbers less 1 of a list.
func sumOf(list []int) int {
	sum := 0
	for _, b := range list {
		sum += b - 1
	}
	return sum
}

func TestPromise24(t *testing.T) {
	times := 0
	for _, list := range append(variedLists(), badLists()...) {
		other, ok := impl.FractionOther(list)
		if !ok {
			continue
		}
		times++
		due := len(list) + len(other) - 1
		if sumOf(list) != due || sumOf(other) != due {
			t.Errorf("FractionOther(%v) returned %v", list, other)
		}
		if back, ok := impl.FractionOther(other); ok != isValued(other) || ok && !slices.Equal(back, list) {
			t.Errorf("FractionOther(%v) returned %v, %v, not %v", other, back, ok, list)
		}
	}
	atLeast(t, times, 500)
}
