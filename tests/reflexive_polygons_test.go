package tests

import (
	"math"
	"slices"
	"testing"

	"loop.example/toricfans/impl"
)

// hasOneInner reports whether 0 is the only inner vector of a polygon; these are found one by one.
func hasOneInner(p Polygon) bool {
	if !isPolygon(p) {
		return false
	}
	inner, _ := vectorsOf(p)
	return slices.Equal(inner, fan(0, 0))
}

// kindOfReflexive returns the index of the only kind with a polygon that is the same as another one.
func kindOfReflexive(t *testing.T, p Polygon) int {
	t.Helper()
	found := -1
	for i, k := range reflexiveKinds() {
		if measureOf(k.p) == measureOf(p) && areSame(k.p, p) {
			if found >= 0 {
				t.Errorf("%v is of the kinds %d and %d", p, found, i)
			}
			found = i
		}
	}
	if found < 0 {
		t.Errorf("%v is of no kind", p)
	}
	return found
}

func TestReflexiveKinds(t *testing.T) {
	kinds := reflexiveKinds()
	checkEqual(t, "the number of kinds", nil, len(kinds), 16)
	some, all := 0, 0
	for i, k := range kinds {
		if !hasOneInner(k.p) || !isReflexive(k.p) || kindOfReflexive(t, k.p) != i || len(edgesOf(k.p)) != k.edge {
			t.Errorf("%v is no reflexive polygon of the kind %d with %d edge vectors", k.p, i, k.edge)
		}
		dual, ok := dualOf(k.p)
		if !ok || kindOfReflexive(t, dual) != k.dual || kinds[k.dual].dual != i || k.edge+kinds[k.dual].edge != 12 {
			t.Errorf("the dual of %v is %v", k.p, dual)
		}
		if k.edge > len(k.p) {
			some++
		}
		if !slices.ContainsFunc(waysOf(k.p), isPrimitive) {
			all++
		}
	}
	atLeast(t, some, 10)
	atLeast(t, all, 3)
}

// chosen calls a function for all lists of some vectors out of others, in their order.
func chosen(vectors []Vec, size int, look func(list []Vec)) {
	var choose func(list []Vec, from int)
	choose = func(list []Vec, from int) {
		if len(list) == size {
			look(list)
			return
		}
		for i := from; i < len(vectors); i++ {
			choose(append(slices.Clone(list), vectors[i]), i+1)
		}
	}
	choose(nil, 0)
}

// TestReflexiveKindsAreAll takes all polygons with small corners that have 0 as their only inner vector: the corners are then primitive, and at most 6.
func TestReflexiveKindsAreAll(t *testing.T) {
	found := map[int]int{}
	for size := 3; size <= 7; size++ {
		chosen(sortedFan(primitives(2)), size, func(p Polygon) {
			due := isPolygon(p) && hasOneInner(p)
			if got := impl.ReflexiveIn(p); got != due {
				t.Errorf("ReflexiveIn(%v) returned %v", p, got)
			}
			if due {
				found[kindOfReflexive(t, p)]++
				checkEqual(t, "whether there are more than 6 corners", p, size/7, 0)
			}
		})
	}
	for i := range reflexiveKinds() {
		atLeast(t, found[i], 2)
	}
	checkEqual(t, "the number of kinds", nil, len(found), 16)
}

func checkReflexiveIn(t *testing.T, p Polygon, due bool) {
	t.Helper()
	if got := impl.ReflexiveIn(p); got != due {
		t.Errorf("ReflexiveIn(%v) returned %v", p, got)
	}
}

// TestReflexiveLists sees to it that what is listed is as it is told.
func TestReflexiveLists(t *testing.T) {
	for _, p := range reflexives() {
		if !isReflexive(p) {
			t.Errorf("%v is listed as reflexive", p)
		}
	}
	for _, p := range aroundZero() {
		if isOn(p, Vec{}) != 1 {
			t.Errorf("%v is not around 0", p)
		}
	}
	edges, corners, without := 0, 0, 0
	for _, p := range besideZero() {
		switch on := isOn(p, Vec{}); {
		case on > 0:
			t.Errorf("%v is around 0", p)
		case on < 0:
			without++
		case slices.Contains(p, Vec{}):
			corners++
		default:
			edges++
		}
	}
	for _, p := range nearlyReflexive() {
		if isPolygon(p) {
			t.Errorf("%v is listed as no polygon", p)
		}
	}
	atLeast(t, edges, 300)
	atLeast(t, corners, 1000)
	atLeast(t, without, 1000)
	atLeast(t, len(aroundZero()), 60)
	atLeast(t, len(nearlyReflexive()), 1000)
}

func TestReflexiveIn(t *testing.T) {
	times := 0
	for _, p := range reflexivesAndOthers() {
		due := isReflexive(p)
		checkReflexiveIn(t, p, due)
		if due {
			times++
		}
	}
	atLeast(t, times, 2000)
}

// TestReflexiveInOfAllTurns begins the polygons at each of their corners.
func TestReflexiveInOfAllTurns(t *testing.T) {
	for _, p := range reflexives() {
		for _, q := range allTurns(p) {
			checkReflexiveIn(t, q, true)
		}
	}
	for _, p := range append(aroundZero(), besideZero()...) {
		for _, q := range allTurns(p) {
			checkReflexiveIn(t, q, false)
		}
	}
}

// smallHulls has hulls of few small vectors, which have few inner vectors.
func smallHulls(number int) []Polygon {
	var s series
	var list []Polygon
	for i := range number {
		if p := hullOf(s.vecs(3+i%4, 2+i%2)); isPolygon(p) {
			list = append(list, p)
		}
	}
	return list
}

// TestReflexiveInByInnerVectors finds the inner vectors of small polygons one by one, and shifts each of the vectors to 0: the polygon is then reflexive if it is the only inner one.
func TestReflexiveInByInnerVectors(t *testing.T) {
	times, others := 0, 0
	for _, p := range slices.Concat(gridPolygons(), smallHulls(3000), aroundZero()) {
		if sizeOf(p) > 10 {
			continue
		}
		inner, edge := vectorsOf(p)
		for _, a := range slices.Concat(inner[:min(len(inner), 9)], edge, nearEdges(p)[:3]) {
			due := slices.Equal(inner, []Vec{a})
			checkReflexiveIn(t, shifted(p, Vec{X: -a.X, Y: -a.Y}), due)
			if due {
				times++
			} else {
				others++
			}
		}
	}
	atLeast(t, times, 300)
	atLeast(t, others, 10000)
}

func TestReflexiveInOfSome(t *testing.T) {
	cases := []struct {
		p   Polygon
		due bool
	}{
		{fan(1, 0, 0, 1, -1, -1), true},
		{fan(-1, -1, 2, -1, -1, 2), true},
		{squareOf(1), true},
		{fan(-1, 0, 0, -99, 1, 0, 0, 99), false},
		{fan(-1, -99, 0, -1, 1, 99, 0, 1), true},
		{fan(-1, -100, 0, -1, 1, 100, 0, 1), true},
		{fan(-1, -101, 0, -1, 1, 101, 0, 1), false},
		{squareOf(2), false},
		{fan(-1, -1, 1, -1, 1, 2, -1, 2), false},
		{fan(-1, -1, 2, -1, 2, 1, -1, 1), false},
		{fan(1, 0, 0, 1, -2, -1), true},
		{fan(2, 0, 0, 1, -1, -1), false},
		{fan(1, 0, 0, 1, -3, -2), true},
		{fan(1, 0, 0, 1, -3, -1), false},
		{fan(0, 0, 3, 0, 0, 3), false},
		{fan(-1, 0, 2, 0, -1, 3), false},
		{fan(-2, -1, 1, -1, -2, 2), false},
		{fan(0, 0, 2, 0, 2, 2, 0, 2), false},
		{fan(-1, 0, 1, 0, 1, 2, -1, 2), false},
		{fan(5, 5, 8, 5, 5, 8), false},
		{fan(-1, -1, 0, -1, 1, -1, 1, 1, -1, 1), false},
		{fan(-1, -1, -1, 2, 2, -1), false},
		{slices.Repeat(squareOf(1), 2), false},
		{fan(1, 0, 0, 1), false},
		{fan(0, 0, 0, 0, 0, 0), false},
		{nil, false},
		{fan(1, 0, 0, 1, math.MinInt, math.MinInt), false},
		{fan(math.MaxInt, math.MinInt, 0, 1, -1, -1), false},
	}
	for _, c := range cases {
		checkReflexiveIn(t, c.p, c.due)
		for _, m := range []Mat{{A: 0, B: 1, C: -1, D: 0}, {A: -1, B: 0, C: 0, D: -1}} {
			checkReflexiveIn(t, changedList(c.p, m), c.due)
		}
		if c.due {
			checkReflexiveIn(t, reversedFan(c.p), false)
		}
	}
}

// checkDual holds the dual and both numbers of edge vectors of a list against those that are due, and tells whether there are any.
func checkDual(t *testing.T, p Polygon) bool {
	t.Helper()
	due, valid := dualOf(p)
	got, ok := impl.ReflexiveDual(p)
	checkFan(t, "ReflexiveDual", p, nil, got, ok, due, valid)
	var numbers [2]int
	if valid {
		numbers = [2]int{len(edgesOf(p)), len(edgesOf(due))}
	}
	checkTwelve(t, p, numbers, valid)
	return valid
}

func checkTwelve(t *testing.T, p Polygon, due [2]int, valid bool) {
	t.Helper()
	n, k, ok := impl.ReflexiveTwelve(p)
	if ok != valid || [2]int{n, k} != due {
		t.Errorf("ReflexiveTwelve(%v) returned %d, %d, %v, not %v, %v", p, n, k, ok, due, valid)
	}
}

func TestReflexiveDual(t *testing.T) {
	told, beyond := 0, 0
	for _, p := range reflexivesAndOthers() {
		if checkDual(t, p) {
			told++
		} else if isReflexive(p) {
			beyond++
		}
	}
	atLeast(t, told, 2000)
	atLeast(t, beyond, 300)
}

// TestReflexiveDualOfMovedKinds moves the dual of each kind back by the matrix with rows and columns exchanged, and knows both numbers from the kind.
func TestReflexiveDualOfMovedKinds(t *testing.T) {
	kinds := reflexiveKinds()
	var straight, over [16]int
	beyond := 0
	for _, k := range movedKinds() {
		dual, _ := dualOf(kinds[k.kind].p)
		turned := Mat{A: k.m.A, B: k.m.C, C: k.m.B, D: k.m.D}
		due, ok := changedOf(dual, func(a Vec) Vec { return moved(matInverse(turned), a) })
		numbers := [2]int{kinds[k.kind].edge, 12 - kinds[k.kind].edge}
		if !ok {
			numbers = [2]int{}
			beyond++
		} else if det(k.m) == 1 {
			straight[k.kind]++
		} else {
			over[k.kind]++
		}
		for _, q := range allTurns(k.p) {
			got, told := impl.ReflexiveDual(q)
			checkFan(t, "ReflexiveDual", q, nil, got, told, due, ok)
			checkTwelve(t, q, numbers, ok)
		}
	}
	for i := range kinds {
		atLeast(t, straight[i], 40)
		atLeast(t, over[i], 40)
	}
	atLeast(t, beyond, 300)
}

// matInverse returns the matrix that moves back.
func matInverse(m Mat) Mat {
	d := det(m)
	return Mat{A: d * m.D, B: -d * m.B, C: -d * m.C, D: d * m.A}
}

// TestReflexiveDualAtTheLimit has duals with numbers up to just 100, and with numbers beyond, of polygons within the limit, at each place.
func TestReflexiveDualAtTheLimit(t *testing.T) {
	within, beyond := map[int]int{}, map[int]int{}
	for _, p := range reflexives() {
		list, _ := dualCornersOf(p)
		box := boxOf(list)
		switch sizeOf(list) {
		case 100:
			within[slices.IndexFunc(box[:], func(n int) bool { return n == 100 || n == -100 })]++
		case 101:
			beyond[slices.IndexFunc(box[:], func(n int) bool { return n == 101 || n == -101 })]++
		default:
			continue
		}
		for _, q := range allTurns(p) {
			if checkDual(t, q) != (sizeOf(list) == 100) {
				t.Errorf("the dual of %v is not as told", q)
			}
			checkReflexiveIn(t, q, true)
			checkEdgeFan(t, q)
		}
	}
	for _, place := range []int{0, 2} {
		atLeast(t, within[place], 10)
		atLeast(t, beyond[place], 10)
	}
	atLeast(t, within[1]+within[3], 5)
	atLeast(t, beyond[1]+beyond[3], 5)
}

func TestReflexiveDualOfSome(t *testing.T) {
	cases := []struct {
		p, due  Polygon
		numbers [2]int
	}{
		{fan(1, 0, 0, 1, -1, -1), fan(-1, -1, 2, -1, -1, 2), [2]int{3, 9}},
		{fan(-1, -1, 2, -1, -1, 2), fan(-1, -1, 1, 0, 0, 1), [2]int{9, 3}},
		{fan(2, -1, -1, 2, -1, -1), fan(-1, -1, 1, 0, 0, 1), [2]int{9, 3}},
		{squareOf(1), fan(-1, 0, 0, -1, 1, 0, 0, 1), [2]int{8, 4}},
		{fan(1, 0, 0, 1, -1, 0, 0, -1), squareOf(1), [2]int{4, 8}},
		{fan(1, 0, 1, 1, 0, 1, -1, 0, -1, -1, 0, -1), fan(-1, 0, 0, -1, 1, -1, 1, 0, 0, 1, -1, 1), [2]int{6, 6}},
		{fan(-1, 1, 0, -1, 2, 1), fan(-1, 1, 0, -1, 2, 1), [2]int{6, 6}},
		{fan(-2, 1, 0, -1, 2, 1), fan(-1, 1, 0, -1, 1, 1), [2]int{8, 4}},
		{fan(-1, 1, 0, -1, 1, 1), fan(-2, 1, 0, -1, 2, 1), [2]int{4, 8}},
		{fan(-1, 0, -99, -1, 1, 0, 99, 1), fan(-1, 98, 1, -100, 1, -98, -1, 100), [2]int{4, 8}},
		{fan(-1, 0, -100, -1, 1, 0, 100, 1), nil, [2]int{}},
		{fan(-1, 0, 0, -1, 1, 0, 0, 2), nil, [2]int{}},
		{squareOf(2), nil, [2]int{}},
		{fan(0, 0, 3, 0, 0, 3), nil, [2]int{}},
		{fan(-1, -1, -1, 2, 2, -1), nil, [2]int{}},
		{fan(-1, -1, 0, -1, 2, -1, -1, 2), nil, [2]int{}},
		{nil, nil, [2]int{}},
	}
	for _, c := range cases {
		if c.due != nil {
			c.due = tidyOf(c.due)
		}
		got, ok := impl.ReflexiveDual(c.p)
		checkFan(t, "ReflexiveDual", c.p, nil, got, ok, c.due, c.due != nil)
		checkTwelve(t, c.p, c.numbers, c.due != nil)
	}
}
