package tests

import (
	"math"
	"slices"
	"testing"

	"loop.example/toricfans/impl"
)

func TestConeValues(t *testing.T) {
	for _, c := range goodCones() {
		if !isCone(c) {
			t.Errorf("%v is listed as a cone", c)
		}
	}
	for _, c := range badCones() {
		if isCone(c) {
			t.Errorf("%v is listed as none", c)
		}
	}
}

func TestConeIn(t *testing.T) {
	for _, c := range conesAndNone() {
		if got := impl.ConeIn(c); got != isCone(c) {
			t.Errorf("ConeIn(%v) returned %v", c, got)
		}
	}
	for _, u := range anyVecs() {
		for _, v := range anyVecs() {
			c := Cone{U: u, V: v}
			if got := impl.ConeIn(c); got != isCone(c) {
				t.Errorf("ConeIn(%v) returned %v", c, got)
			}
		}
	}
}

func TestConeIndex(t *testing.T) {
	for _, c := range conesAndNone() {
		due := 0
		if isCone(c) {
			due = vecDetOf(c.U, c.V)
		}
		if got, ok := impl.ConeIndex(c); ok != isCone(c) || got != due {
			t.Errorf("ConeIndex(%v) returned %d, %v", c, got, ok)
		}
	}
}

// kindsOf returns all numbers that are a kind of a cone by the words of the document.
func kindsOf(c Cone) []int {
	var list []int
	n := vecDetOf(c.U, c.V)
	for q := range n {
		if dividesBoth(n, Vec{X: q*c.U.X + c.V.X, Y: q*c.U.Y + c.V.Y}) {
			list = append(list, q)
		}
	}
	return list
}

func TestConeKind(t *testing.T) {
	for _, c := range goodCones() {
		got, ok := impl.ConeKind(c)
		if due := kindsOf(c); !ok || !slices.Equal(due, []int{got}) {
			t.Errorf("ConeKind(%v) returned %d, %v, not %v", c, got, ok, due)
		}
	}
}

func TestConeKindAndFraction(t *testing.T) {
	cases := []struct {
		c    Cone
		kind int
		list []int
	}{
		{cone(1, 0, 0, 1), 0, nil},
		{cone(1, 0, 1, 2), 1, []int{2}},
		{cone(1, 0, 1, 3), 2, []int{2, 2}},
		{cone(1, 0, 2, 3), 1, []int{3}},
		{cone(1, 0, 4, 7), 3, []int{3, 2, 2}},
		{cone(1, 0, 3, 7), 4, []int{2, 4}},
		{cone(1, 0, 999, 1000), 1, []int{1000}},
		{cone(1, 0, -1000, 999), 1, []int{999}},
		{cone(2, 1, -1, 2), 3, []int{2, 3}},
	}
	for _, c := range cases {
		if got, ok := impl.ConeKind(c.c); !ok || got != c.kind {
			t.Errorf("ConeKind(%v) returned %d, %v", c.c, got, ok)
		}
		if got, ok := impl.ConeFraction(c.c); !ok || !slices.Equal(got, c.list) {
			t.Errorf("ConeFraction(%v) returned %v, %v", c.c, got, ok)
		}
	}
}

// inCone tells by the directions of both bounds whether a vector is in a cone.
func inCone(c Cone, a Vec) bool {
	return vecDetOf(c.U, a) >= 0 && vecDetOf(a, c.V) >= 0
}

// steps are small numbers, some of them negative, by which vectors are made of the rays of a cone.
func steps() []int {
	return []int{-2, -1, 0, 1, 2}
}

func TestConeHas(t *testing.T) {
	for _, c := range goodCones() {
		for _, p := range steps() {
			for _, q := range steps() {
				a := Vec{X: p*c.U.X + q*c.V.X, Y: p*c.U.Y + q*c.V.Y}
				if got := impl.ConeHas(c, a); got != (isVec(a) && p >= 0 && q >= 0) {
					t.Errorf("ConeHas(%v, %v) returned %v", c, a, got)
				}
			}
		}
	}
}

func TestConeHasByAngle(t *testing.T) {
	const same = 1e-9 // far less than the angle between two directions
	for _, c := range smallCones() {
		opening := angle(c.V) - angle(c.U)
		if opening < 0 {
			opening += 2 * math.Pi
		}
		for _, a := range goodVecs() {
			from := angle(a) - angle(c.U)
			if from < -same {
				from += 2 * math.Pi
			}
			due := a == (Vec{}) || from < opening+same
			if got := impl.ConeHas(c, a); got != due {
				t.Errorf("ConeHas(%v, %v) returned %v", c, a, got)
			}
		}
	}
}

func TestConeHasAtTheRays(t *testing.T) {
	c := cone(1000, 1, -999, 1)
	in := []Vec{{}, {X: 1000, Y: 1}, {X: -999, Y: 1}, {X: 0, Y: 1}, {X: 999, Y: 1}, {X: 1000, Y: 1000}, {X: -998, Y: 1}, {X: 0, Y: 1000}, {X: -1000, Y: 2}}
	out := []Vec{{X: -1000, Y: -1}, {X: 999, Y: -1}, {X: 1, Y: 0}, {X: -1, Y: 0}, {X: 1000, Y: 0}, {X: -1000, Y: 1}, {X: 0, Y: -1}}
	for _, a := range in {
		if !impl.ConeHas(c, a) {
			t.Errorf("ConeHas(%v, %v) does not hold", c, a)
		}
	}
	for _, a := range append(out, badVecs()...) {
		if impl.ConeHas(c, a) {
			t.Errorf("ConeHas(%v, %v) holds", c, a)
		}
	}
}

func TestConeParts(t *testing.T) {
	for _, c := range goodCones() {
		n := vecDetOf(c.U, c.V)
		for _, a := range append(badVecs(), goodVecs()...) {
			p, q, ok := impl.ConeParts(c, a)
			if due := isVec(a) && inCone(c, a); ok != due {
				t.Errorf("ConeParts(%v, %v) returned %v", c, a, ok)
			}
			if !ok && (p != 0 || q != 0) {
				t.Errorf("ConeParts(%v, %v) failed with %d, %d", c, a, p, q)
			}
			sum := Vec{X: p*c.U.X + q*c.V.X, Y: p*c.U.Y + q*c.V.Y}
			if ok && (p < 0 || q < 0 || sum != Vec{X: n * a.X, Y: n * a.Y}) {
				t.Errorf("ConeParts(%v, %v) returned %d, %d", c, a, p, q)
			}
		}
	}
}

func TestConePartsOfSome(t *testing.T) {
	c := cone(1, 0, 1, 3)
	cases := []struct {
		a    Vec
		p, q int
		ok   bool
	}{
		{Vec{}, 0, 0, true},
		{Vec{X: 1, Y: 0}, 3, 0, true},
		{Vec{X: 2, Y: 6}, 0, 6, true},
		{Vec{X: 1, Y: 1}, 2, 1, true},
		{Vec{X: 1000, Y: 1000}, 2000, 1000, true},
		{Vec{X: 1, Y: -1}, 0, 0, false},
		{Vec{X: -1, Y: 0}, 0, 0, false},
		{Vec{X: -1, Y: -3}, 0, 0, false},
		{Vec{X: -1, Y: -1}, 0, 0, false},
		{Vec{X: 0, Y: 1}, 0, 0, false},
		{Vec{X: 1001, Y: 1}, 0, 0, false},
		{Vec{X: math.MaxInt, Y: 0}, 0, 0, false},
		{Vec{X: math.MinInt, Y: math.MinInt}, 0, 0, false},
	}
	for _, x := range cases {
		p, q, ok := impl.ConeParts(c, x.a)
		if p != x.p || q != x.q || ok != x.ok || impl.ConeHas(c, x.a) != x.ok {
			t.Errorf("ConeParts(%v, %v) returned %d, %d, %v", c, x.a, p, q, ok)
		}
	}
}

// candidates has the vectors, but 0, that are both rays of a cone times numbers from 0 to 1: all others are sums.
func candidates(c Cone, size int) []Vec {
	var list []Vec
	n := vecDetOf(c.U, c.V)
	for x := -2 * size; x <= 2*size; x++ {
		for y := -2 * size; y <= 2*size; y++ {
			a := Vec{X: x, Y: y}
			if a != (Vec{}) && inCone(c, a) && vecDetOf(c.U, a) <= n && vecDetOf(a, c.V) <= n {
				list = append(list, a)
			}
		}
	}
	return list
}

// baseOf returns the whole base of a cone by the words of the document.
func baseOf(c Cone, size int) []Vec {
	all := candidates(c, size)
	isSum := func(a Vec) bool {
		return slices.ContainsFunc(all, func(b Vec) bool {
			rest := Vec{X: a.X - b.X, Y: a.Y - b.Y}
			return rest != (Vec{}) && inCone(c, rest)
		})
	}
	base := slices.DeleteFunc(slices.Clone(all), isSum)
	slices.SortFunc(base, func(a, b Vec) int { return -vecDetOf(a, b) })
	return base
}

func TestConeBase(t *testing.T) {
	for _, c := range smallCones() {
		due := baseOf(c, 4)
		if got, ok := impl.ConeBase(c); !ok || !slices.Equal(got, due) {
			t.Errorf("ConeBase(%v) returned %v, %v, not %v", c, got, ok, due)
		}
	}
}

func TestConeBaseOfSome(t *testing.T) {
	var right, down []Vec
	for n := -1000; n <= 1000; n++ {
		right = append(right, Vec{X: 1, Y: n})
		down = append(down, Vec{X: n, Y: -1})
	}
	cases := []struct {
		c   Cone
		due []Vec
	}{
		{cone(1, 0, 1, 2), []Vec{{X: 1, Y: 0}, {X: 1, Y: 1}, {X: 1, Y: 2}}},
		{cone(0, 1, -2, -1), []Vec{{X: 0, Y: 1}, {X: -1, Y: 0}, {X: -2, Y: -1}}},
		{cone(1, 0, 4, 7), []Vec{{X: 1, Y: 0}, {X: 1, Y: 1}, {X: 2, Y: 3}, {X: 3, Y: 5}, {X: 4, Y: 7}}},
		{cone(1, 0, 999, 1000), []Vec{{X: 1, Y: 0}, {X: 1, Y: 1}, {X: 999, Y: 1000}}},
		{cone(999, 998, 1000, 999), []Vec{{X: 999, Y: 998}, {X: 1000, Y: 999}}},
		{cone(1, -1000, 1, 1000), right},
		{cone(-1000, -1, 1000, -1), down},
	}
	for _, c := range cases {
		if got, ok := impl.ConeBase(c.c); !ok || !slices.Equal(got, c.due) {
			t.Errorf("ConeBase(%v) returned %v, %v, not %v", c.c, got, ok, c.due)
		}
	}
}

// A list that goes so from ray to ray is the whole base: with a number of at least 2, no vector is the sum of others.
func TestConeBaseOfLarge(t *testing.T) {
	for _, c := range largeCones() {
		got, ok := impl.ConeBase(c)
		if !ok || len(got) < 2 || got[0] != c.U || got[len(got)-1] != c.V {
			t.Errorf("ConeBase(%v) returned %v, %v", c, got, ok)
			continue
		}
		for i, a := range got[1:] {
			if vecDetOf(got[i], a) != 1 || i > 0 && vecDetOf(got[i-1], a) < 2 {
				t.Errorf("ConeBase(%v) has %v behind %v", c, a, got[:i+1])
			}
		}
	}
}

func TestSmoothCones(t *testing.T) {
	atLeast(t, len(smoothCones()), 100)
	for _, c := range smoothCones() {
		if n, ok := impl.ConeIndex(c); !ok || n != 1 {
			t.Errorf("ConeIndex(%v) returned %d, %v", c, n, ok)
		}
		if q, ok := impl.ConeKind(c); !ok || q != 0 {
			t.Errorf("ConeKind(%v) returned %d, %v", c, q, ok)
		}
		if list, ok := impl.ConeBase(c); !ok || !slices.Equal(list, []Vec{c.U, c.V}) {
			t.Errorf("ConeBase(%v) returned %v, %v", c, list, ok)
		}
		if list, ok := impl.ConeFraction(c); !ok || len(list) != 0 {
			t.Errorf("ConeFraction(%v) returned %v, %v", c, list, ok)
		}
	}
}

func TestConeFraction(t *testing.T) {
	for _, c := range goodCones() {
		var due []int
		if n := vecDetOf(c.U, c.V); n > 1 {
			due = fractionOf(n, kindsOf(c)[0])
		}
		if got, ok := impl.ConeFraction(c); !ok || !slices.Equal(got, due) {
			t.Errorf("ConeFraction(%v) returned %v, %v, not %v", c, got, ok, due)
		}
	}
}

func TestConeDual(t *testing.T) {
	for _, c := range goodCones() {
		dual, ok := impl.ConeDual(c)
		if !ok || !isCone(dual) {
			t.Errorf("ConeDual(%v) returned %v, %v", c, dual, ok)
		}
		for _, a := range goodVecs() {
			due := vecProductOf(a, c.U) >= 0 && vecProductOf(a, c.V) >= 0
			if inCone(dual, a) != due {
				t.Errorf("ConeDual(%v) returned %v, but for %v it is %v", c, dual, a, due)
			}
		}
	}
}

func TestConeDualOfSome(t *testing.T) {
	cases := []struct{ c, due Cone }{
		{cone(1, 0, 0, 1), cone(1, 0, 0, 1)},
		{cone(1, 0, 1, 3), cone(3, -1, 0, 1)},
		{cone(0, 1, -2, -1), cone(-1, 2, -1, 0)},
		{cone(1, -1000, 1, 1000), cone(1000, -1, 1000, 1)},
		{cone(1000, 999, -999, 1000), cone(1000, 999, -999, 1000)},
	}
	for _, c := range cases {
		if got, ok := impl.ConeDual(c.c); !ok || got != c.due {
			t.Errorf("ConeDual(%v) returned %v, %v", c.c, got, ok)
		}
	}
}

// movedCone returns both rays moved by a matrix, in the order of a cone.
func movedCone(c Cone, m Mat) Cone {
	u := Vec{X: m.A*c.U.X + m.B*c.U.Y, Y: m.C*c.U.X + m.D*c.U.Y}
	v := Vec{X: m.A*c.V.X + m.B*c.V.Y, Y: m.C*c.V.X + m.D*c.V.Y}
	if det(m) == -1 {
		return Cone{U: v, V: u}
	}
	return Cone{U: u, V: v}
}

// someCones has few small cones beside the large ones and what is none, to go with each of many matrices.
func someCones() []Cone {
	list := append(conesOf(primitives(2)), largeCones()...)
	return append(list, badCones()...)
}

func TestConeMove(t *testing.T) {
	for _, c := range someCones() {
		for _, m := range append(goodMats(), badMats()...) {
			due := Cone{}
			valid := isCone(c) && isMat(m) && isCone(movedCone(c, m))
			if valid {
				due = movedCone(c, m)
			}
			if got, ok := impl.ConeMove(c, m); ok != valid || got != due {
				t.Errorf("ConeMove(%v, %v) returned %v, %v, not %v, %v", c, m, got, ok, due, valid)
			}
		}
	}
}

func TestConeMoveOfSome(t *testing.T) {
	shear := Mat{A: 1, B: 1, C: 0, D: 1}
	mirror := Mat{A: 0, B: 1, C: 1, D: 0}
	cases := []struct {
		c   Cone
		m   Mat
		due Cone
		ok  bool
	}{
		{cone(1, 0, 1, 3), shear, cone(1, 0, 4, 3), true},
		{cone(1, 0, 1, 3), mirror, cone(3, 1, 0, 1), true},
		{cone(1, 0, 1, 3), Mat{A: -1, B: 0, C: 0, D: -1}, cone(-1, 0, -1, -3), true},
		{cone(1, 0, 601, 399), shear, cone(1, 0, 1000, 399), true},
		{cone(1, 0, 601, 400), shear, Cone{}, false},
		{cone(601, 399, 0, 1), shear, cone(1000, 399, 1, 1), true},
		{cone(601, 400, 0, 1), shear, Cone{}, false},
		{cone(1, 0, 0, 1), Mat{A: 1000, B: 999, C: 1, D: 1}, cone(1000, 1, 999, 1), true},
		{cone(1, 0, 1, 1), Mat{A: 1000, B: 999, C: 1, D: 1}, Cone{}, false},
		{cone(1, 0, 1, 3), Mat{A: 2, B: 0, C: 0, D: 1}, Cone{}, false},
		{cone(1, 0, 1, 3), Mat{}, Cone{}, false},
		{cone(1, 3, 1, 0), mirror, Cone{}, false},
		{cone(2, 0, 0, 1), shear, Cone{}, false},
	}
	for _, x := range cases {
		if got, ok := impl.ConeMove(x.c, x.m); ok != x.ok || got != x.due {
			t.Errorf("ConeMove(%v, %v) returned %v, %v", x.c, x.m, got, ok)
		}
	}
}

// checkFailure holds against zero values what every function returns for a cone that is none.
func checkFailure(t *testing.T, c Cone) {
	t.Helper()
	if n, ok := impl.ConeIndex(c); ok || n != 0 {
		t.Errorf("ConeIndex(%v) returned %d, %v", c, n, ok)
	}
	if q, ok := impl.ConeKind(c); ok || q != 0 {
		t.Errorf("ConeKind(%v) returned %d, %v", c, q, ok)
	}
	if list, ok := impl.ConeBase(c); ok || len(list) != 0 {
		t.Errorf("ConeBase(%v) returned %v, %v", c, list, ok)
	}
	if list, ok := impl.ConeFraction(c); ok || len(list) != 0 {
		t.Errorf("ConeFraction(%v) returned %v, %v", c, list, ok)
	}
	if dual, ok := impl.ConeDual(c); ok || dual != (Cone{}) {
		t.Errorf("ConeDual(%v) returned %v, %v", c, dual, ok)
	}
	for _, a := range []Vec{{}, c.U, c.V, {X: 1, Y: 1}, {X: math.MinInt, Y: math.MaxInt}} {
		if p, q, ok := impl.ConeParts(c, a); ok || p != 0 || q != 0 || impl.ConeHas(c, a) {
			t.Errorf("ConeParts(%v, %v) returned %d, %d, %v", c, a, p, q, ok)
		}
	}
	if moved, ok := impl.ConeMove(c, Mat{A: 1, B: 0, C: 0, D: 1}); ok || moved != (Cone{}) {
		t.Errorf("ConeMove(%v) returned %v, %v", c, moved, ok)
	}
}

func TestConesThatAreNone(t *testing.T) {
	for _, c := range badCones() {
		checkFailure(t, c)
	}
	for _, n := range []int{1001, -1001, math.MaxInt, math.MinInt} {
		for _, ray := range []Vec{{X: n, Y: 1}, {X: 1, Y: n}, {X: n, Y: n}, {X: n, Y: 0}, {X: 0, Y: n}} {
			for _, a := range append(primitives(1), badVecs()...) {
				checkFailure(t, Cone{U: ray, V: a})
				checkFailure(t, Cone{U: a, V: ray})
			}
		}
	}
}

func TestResultsOfConesShareNoMemory(t *testing.T) {
	c := cone(1, 0, 4, 7)
	base, _ := impl.ConeBase(c)
	list, _ := impl.ConeFraction(c)
	overwrite(base, Vec{X: 9, Y: 9})
	overwrite(list, 9)
	if again, ok := impl.ConeBase(c); !ok || !slices.Equal(again, baseOf(c, 7)) {
		t.Errorf("ConeBase(%v) returned %v, %v", c, again, ok)
	}
	if again, ok := impl.ConeFraction(c); !ok || !slices.Equal(again, []int{3, 2, 2}) {
		t.Errorf("ConeFraction(%v) returned %v, %v", c, again, ok)
	}
}
