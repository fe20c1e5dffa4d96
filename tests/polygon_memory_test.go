package tests

import (
	"math"
	"slices"
	"testing"

	"loop.example/toricfans/impl"
)

// callPolygons calls every function of the chapter, and returns all lists that result.
func callPolygons(p, q Polygon) []Polygon {
	var results []Polygon
	keep := func(list []Vec, ok bool) {
		results = append(results, list)
	}
	keep(impl.PolygonTidy(p))
	keep(impl.PolygonOf(p))
	keep(impl.PolygonSum(p, q))
	keep(impl.PolygonSum(p, p))
	for _, n := range []int{1, 2, 0, 20, 21, math.MinInt, math.MaxInt} {
		keep(impl.PolygonTimes(p, n))
	}
	for _, a := range []Vec{{}, {X: 1, Y: -1}, {X: 1000, Y: 1000}, {X: math.MinInt, Y: math.MaxInt}} {
		keep(impl.PolygonShift(p, a))
		impl.PolygonHas(p, a)
	}
	for _, m := range []Mat{{A: 1, B: 0, C: 0, D: 1}, {A: 0, B: 1, C: 1, D: 0}, {A: 1, B: 1000, C: 0, D: 1}, {A: math.MinInt, B: 1, C: -1, D: 0}} {
		keep(impl.PolygonMove(p, m))
	}
	keep(impl.PolygonNormals(p))
	impl.PolygonIn(p)
	impl.PolygonArea(p)
	impl.PolygonEdge(p)
	impl.PolygonInner(p)
	impl.PolygonCount(p)
	impl.PolygonMixed(p, q)
	impl.PolygonSame(p, q)
	return results
}

func TestPolygonsLeaveTheirArguments(t *testing.T) {
	polygons := polygonsAndNone()
	for i, first := range polygons {
		second := polygons[i*31%len(polygons)]
		p, allP := withRoom(first)
		q, allQ := withRoom(second)
		beforeP, beforeQ := slices.Clone(allP), slices.Clone(allQ)
		callPolygons(p, q)
		callPolygons(q, p)
		if !slices.Equal(allP, beforeP) || !slices.Equal(allQ, beforeQ) {
			t.Fatalf("%v or %v was changed", first, second)
		}
	}
}

func TestResultsOfPolygonsShareNoMemory(t *testing.T) {
	lists := 0
	polygons := goodPolygons()
	for i, first := range polygons {
		second := polygons[i*29%len(polygons)]
		p, allP := withRoom(first)
		q, allQ := withRoom(second)
		beforeP, beforeQ := slices.Clone(allP), slices.Clone(allQ)
		due := callPolygons(slices.Clone(first), slices.Clone(second))
		results := callPolygons(p, q)
		for k, result := range results {
			if !slices.Equal(result, due[k]) {
				t.Fatalf("result %d of %v and %v was changed to %v", k, first, second, result)
			}
			lists += min(1, len(result))
			overwrite(result[:cap(result)], Vec{X: 12345, Y: 6})
		}
		if !slices.Equal(allP, beforeP) || !slices.Equal(allQ, beforeQ) {
			t.Fatalf("a result shares memory with %v or %v", first, second)
		}
		if again := callPolygons(p, q); !slices.EqualFunc(again, due, slices.Equal[Polygon]) {
			t.Fatalf("a result for %v and %v was kept", first, second)
		}
	}
	atLeast(t, lists, 3000)
}

// checkNoPolygon holds against zero values what every function returns for a list that is no polygon.
func checkNoPolygon(t *testing.T, p Polygon) {
	t.Helper()
	if impl.PolygonIn(p) {
		t.Errorf("PolygonIn(%v) holds", p)
	}
	got, ok := impl.PolygonTidy(p)
	checkFan(t, "PolygonTidy", p, nil, got, ok, nil, false)
	for _, a := range append(fan(0, 0, 1, 1, -100, 7), p[:min(len(p), 5)]...) {
		checkPolygonHas(t, p, a, false)
		got, ok = impl.PolygonShift(p, a)
		checkFan(t, "PolygonShift", p, a, got, ok, nil, false)
	}
	checkNumbersOfPolygon(t, p, numbersOfPolygon{}, false)
	for _, q := range []Polygon{p, squareOf(1), nil} {
		checkSum(t, p, q)
		checkSum(t, q, p)
		checkSame(t, p, q, false)
		checkSame(t, q, p, false)
	}
	for _, n := range []int{1, 2, 20} {
		got, ok = impl.PolygonTimes(p, n)
		checkFan(t, "PolygonTimes", p, n, got, ok, nil, false)
	}
	for _, m := range []Mat{{A: 1, B: 0, C: 0, D: 1}, {A: 0, B: 1, C: 1, D: 0}, {A: 1, B: 0, C: 0, D: -1}} {
		got, ok = impl.PolygonMove(p, m)
		checkFan(t, "PolygonMove", p, m, got, ok, nil, false)
	}
	got, ok = impl.PolygonNormals(p)
	checkFan(t, "PolygonNormals", p, nil, got, ok, nil, false)
}

func TestPolygonsThatAreNone(t *testing.T) {
	for _, p := range badPolygons() {
		checkNoPolygon(t, p)
	}
}

// TestPolygonsOfAnyNumbers puts every vector of edge numbers at every place.
func TestPolygonsOfAnyNumbers(t *testing.T) {
	none := 0
	for _, a := range anyVecs() {
		for _, p := range []Polygon{{a, a, a}, {{}, {X: 1}, {Y: 1}}, fan(-50, -60, 70, -50, -40, 50), fan(0, -2, 2, 0, 0, 2, -2, 0)} {
			for i := range p {
				q := withRay(p, i, a)
				checkPolygonOf(t, q)
				if !isPolygon(q) {
					none++
					checkNoPolygon(t, q)
				} else if !impl.PolygonIn(q) {
					t.Errorf("PolygonIn(%v) does not hold", q)
				}
			}
		}
	}
	atLeast(t, none, 3000)
}

// TestPolygonsWithAnyNumbers gives polygons every edge number as another argument.
func TestPolygonsWithAnyNumbers(t *testing.T) {
	polygons := []Polygon{fan(3, 4, 5, 4, 4, 6), squareOf(100), roundPolygon(4, 30)}
	for _, p := range polygons {
		for _, n := range edgeNumbers() {
			checkPolygonTimes(t, p, n)
			for _, m := range []Mat{{A: n, B: 1, C: -1, D: 0}, {A: 1, B: n, C: 0, D: 1}, {A: 1, B: 0, C: n, D: 1}, {A: 0, B: 1, C: 1, D: n}, {A: n, B: n, C: n, D: n}} {
				checkPolygonMove(t, p, m)
			}
		}
		for _, a := range anyVecs() {
			checkPolygonShift(t, p, a)
			checkPolygonHas(t, p, a, isVec(a) && isOn(p, a) >= 0)
		}
	}
}
