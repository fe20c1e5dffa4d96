package tests

import (
	"math"
	"slices"
	"testing"

	"loop.example/toricfans/impl"
)

// checkEdgeFan holds the fan of the edge vectors of a list, and its numbers, against those that are due, and tells whether there are any.
func checkEdgeFan(t *testing.T, p Polygon) bool {
	t.Helper()
	due, valid := edgeFanOf(p)
	got, ok := impl.ReflexiveFan(p)
	checkFan(t, "ReflexiveFan", p, nil, got, ok, due, valid)
	checkReflexiveNumbers(t, p, due, valid)
	return valid
}

// checkReflexiveNumbers searches for the numbers of a fan that is smooth.
func checkReflexiveNumbers(t *testing.T, p Polygon, f Fan, valid bool) {
	t.Helper()
	var due []int
	if valid && isSmooth(f) {
		due = numbersOfFan(f)
	}
	if got, ok := impl.ReflexiveNumbers(p); ok != (due != nil) || !slices.Equal(got, due) {
		t.Errorf("ReflexiveNumbers(%v) returned %v, %v, not %v", p, got, ok, due)
	}
}

func TestReflexiveFan(t *testing.T) {
	told := 0
	for _, p := range reflexivesAndOthers() {
		if checkEdgeFan(t, p) {
			told++
		}
	}
	atLeast(t, told, 2000)
}

// TestReflexiveFanOfMovedKinds moves the edge vectors of each kind, and begins its polygon at each corner.
func TestReflexiveFanOfMovedKinds(t *testing.T) {
	kinds := reflexiveKinds()
	for _, k := range movedKinds() {
		due, ok := movedFan(sortedFan(edgesOf(kinds[k.kind].p)), k.m)
		if !ok || len(due) != kinds[k.kind].edge {
			t.Fatalf("the edge vectors of %v are no fan: %v", k.p, due)
		}
		for _, q := range allTurns(k.p) {
			got, told := impl.ReflexiveFan(q)
			checkFan(t, "ReflexiveFan", q, nil, got, told, due, true)
		}
		checkReflexiveNumbers(t, turnedTo(k.p, len(k.p)-1), due, true)
	}
}

// TestReflexiveFanHasFewRays shows that no reflexive polygon has more edge vectors than 9, so that they are never more rays than a fan may have, and always smooth.
func TestReflexiveFanHasFewRays(t *testing.T) {
	sizes := map[int]int{}
	between := 0
	for _, p := range reflexives() {
		f, ok := impl.ReflexiveFan(p)
		if !ok || !isSmooth(f) {
			t.Errorf("ReflexiveFan(%v) returned %v, %v", p, f, ok)
		}
		sizes[len(f)]++
		if len(f) > len(p) {
			between++
		}
	}
	for size := range sizes {
		if size < 3 || size > 9 {
			t.Errorf("a reflexive polygon has %d edge vectors", size)
		}
	}
	for size := 3; size <= 9; size++ {
		atLeast(t, sizes[size], 80)
	}
	atLeast(t, between, 1000)
}

func TestReflexiveFanOfSome(t *testing.T) {
	cases := []struct {
		p       Polygon
		due     Fan
		numbers []int
	}{
		{fan(1, 0, 0, 1, -1, -1), planeFan(), []int{1, 1, 1}},
		{fan(-1, -1, 1, 0, 0, 1), planeFan(), []int{1, 1, 1}},
		{fan(-1, -1, 2, -1, -1, 2), fan(1, 0, 0, 1, -1, 2, -1, 1, -1, 0, -1, -1, 0, -1, 1, -1, 2, -1), []int{-2, -2, -1, -2, -2, -1, -2, -2, -1}},
		{squareOf(1), fan(1, 0, 1, 1, 0, 1, -1, 1, -1, 0, -1, -1, 0, -1, 1, -1), []int{-2, -1, -2, -1, -2, -1, -2, -1}},
		{turnedTo(squareOf(1), 2), fan(1, 0, 1, 1, 0, 1, -1, 1, -1, 0, -1, -1, 0, -1, 1, -1), []int{-2, -1, -2, -1, -2, -1, -2, -1}},
		{fan(-1, 0, 0, -1, 1, 0, 0, 1), kindFan(0), []int{0, 0, 0, 0}},
		{fan(-1, 2, 0, -1, 1, 0), kindFan(2), []int{0, -2, 0, 2}},
		{fan(-2, 1, 0, -1, 2, 1), fan(1, 0, 2, 1, 1, 1, 0, 1, -1, 1, -2, 1, -1, 0, 0, -1), []int{-2, -1, -2, -2, -2, -1, -2, 0}},
		{fan(-1, 0, -100, -1, 1, 0, 100, 1), fan(1, 0, 100, 1, -1, 0, -100, -1), []int{0, 0, 0, 0}},
		{fan(-1, 0, 0, -1, 1, 0, 0, 2), nil, nil},
		{squareOf(2), nil, nil},
		{squareOf(100), nil, nil},
		{fan(0, 0, 3, 0, 0, 3), nil, nil},
		{fan(-1, 0, 2, 0, -1, 3), nil, nil},
		{fan(1, 1, 4, 1, 1, 4), nil, nil},
		{fan(-1, -1, -1, 2, 2, -1), nil, nil},
		{fan(-1, -1, 0, -1, 2, -1, -1, 2), nil, nil},
		{fan(1, 0, 1, 1, 0, 1, -1, 1, -1, 0, -1, -1, 0, -1, 1, -1), nil, nil},
		{nil, nil, nil},
	}
	for _, c := range cases {
		got, ok := impl.ReflexiveFan(c.p)
		checkFan(t, "ReflexiveFan", c.p, nil, got, ok, c.due, c.due != nil)
		if numbers, ok := impl.ReflexiveNumbers(c.p); ok != (c.numbers != nil) || !slices.Equal(numbers, c.numbers) {
			t.Errorf("ReflexiveNumbers(%v) returned %v, %v, not %v", c.p, numbers, ok, c.numbers)
		}
	}
}

func checkConvex(t *testing.T, f Fan, due bool) {
	t.Helper()
	if got := impl.FanConvex(f); got != due {
		t.Errorf("FanConvex(%v) returned %v", f, got)
	}
}

// TestFanConvex counts fans by the least of their numbers, and by how many rays they have.
func TestFanConvex(t *testing.T) {
	convex := 0
	least, rays := map[int]int{}, map[int]int{}
	for _, f := range fansAround() {
		due := isConvex(f)
		checkConvex(t, f, due)
		if due {
			convex++
		}
		if isSmooth(f) {
			least[slices.Min(numbersOfFan(f))]++
			rays[len(f)]++
		}
	}
	atLeast(t, convex, 2000)
	for n := -4; n <= 1; n++ {
		atLeast(t, least[n], 20)
	}
	for _, n := range []int{3, 4, 9, 13, 20} {
		atLeast(t, rays[n], 3)
	}
}

// TestFanConvexFromAnyRay begins fans at each of their rays, so that the number -2, or one that is less, is the first one, the last one, or another.
func TestFanConvexFromAnyRay(t *testing.T) {
	for _, k := range reflexiveKinds() {
		f := sortedFan(edgesOf(k.p))
		for _, g := range allTurns(f) {
			checkConvex(t, g, true)
		}
		for i := range f {
			for _, g := range allTurns(blownUp(f, i)) {
				checkConvex(t, g, slices.Min(numbersOfFan(g)) >= -2)
			}
		}
	}
}

func TestFanConvexOfSome(t *testing.T) {
	cases := []struct {
		f   Fan
		due bool
	}{
		{planeFan(), true},
		{turnedTo(planeFan(), 2), true},
		{fan(1000, 999, -999, -998, -1, -1), true},
		{kindFan(0), true},
		{kindFan(1), true},
		{kindFan(2), true},
		{kindFan(-2), true},
		{kindFan(3), false},
		{kindFan(-3), false},
		{turnedTo(kindFan(3), 1), false},
		{turnedTo(kindFan(3), 2), false},
		{kindFan(1000), false},
		{kindFan(1001), false},
		{fan(1, 0, 1000, 1, -1, 0, -1000, -1), true},
		{longFan(20, 3), false},
		{longFan(20, 5), false},
		{longFan(21, 5), false},
		{evenFan(), false},
		{fan(1, 0, 1, 1, 0, 1, -1, 0, -1, -1, 0, -1), true},
		{fan(1, 0, 1, 1, 0, 1, -1, 1, -1, 0, -1, -1, 0, -1, 1, -1), true},
		{fan(1, 0, 2, 1, 1, 1, 0, 1, -1, 1, -1, 0, -1, -1, 0, -1, 1, -1), false},
		{fan(1, 0, 0, 1, -1, 2, -1, 1, -1, 0, -1, -1, 0, -1, 1, -1, 2, -1), true},
		{fan(2, 1, -1, 1, -1, -2), false},
		{fan(1, 0, 0, 1, -1, -2), false},
		{fan(1, 1, -1, 1, -1, -1, 1, -1), false},
		{reversedFan(planeFan()), false},
		{fan(1, 0, 0, 1), false},
		{fan(2, 0, 0, 1, -1, -1), false},
		{slices.Repeat(planeFan(), 2), false},
		{fan(1, 0, 0, 1, math.MinInt, math.MinInt), false},
		{nil, false},
	}
	for _, c := range cases {
		checkConvex(t, c.f, c.due)
	}
}
