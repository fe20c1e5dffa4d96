package tests

import (
	"testing"

	"loop.example/toricfans/impl"
)

// checkOfPolygon compares a number with the one that is due if there is one.
func checkOfPolygon(t *testing.T, name string, p Polygon, with any, got int, ok bool, due int, valid bool) {
	t.Helper()
	if !valid {
		due = 0
	}
	if ok != valid || got != due {
		t.Errorf("%s(%v, %v) returned %d, %v, not %d, %v", name, p, with, got, ok, due, valid)
	}
}

// numbersOfPolygon are twice the area, and how many edge vectors and inner ones there are.
type numbersOfPolygon struct{ area, edge, inner int }

// checkNumbersOfPolygon holds all numbers of a list against those that are due if it is a polygon.
func checkNumbersOfPolygon(t *testing.T, p Polygon, due numbersOfPolygon, valid bool) {
	t.Helper()
	n, ok := impl.PolygonArea(p)
	checkOfPolygon(t, "PolygonArea", p, nil, n, ok, due.area, valid)
	n, ok = impl.PolygonEdge(p)
	checkOfPolygon(t, "PolygonEdge", p, nil, n, ok, due.edge, valid)
	n, ok = impl.PolygonInner(p)
	checkOfPolygon(t, "PolygonInner", p, nil, n, ok, due.inner, valid)
	n, ok = impl.PolygonCount(p)
	checkOfPolygon(t, "PolygonCount", p, nil, n, ok, due.edge+due.inner, valid)
}

// TestPolygonNumbers finds the vectors one by one.
func TestPolygonNumbers(t *testing.T) {
	without, many := 0, 0
	for _, p := range goodPolygons() {
		inner, edge := vectorsOf(p)
		checkNumbersOfPolygon(t, p, numbersOfPolygon{areaOf(p), len(edge), len(inner)}, true)
		if len(inner) == 0 {
			without++
		}
		if len(inner) > 5000 {
			many++
		}
	}
	atLeast(t, without, 100)
	atLeast(t, many, 40)
}

func TestPolygonNumbersOfSome(t *testing.T) {
	cases := []struct {
		p   Polygon
		due numbersOfPolygon
	}{
		{fan(0, 0, 1, 0, 0, 1), numbersOfPolygon{1, 3, 0}},
		{fan(0, 0, 2, 0, 0, 2), numbersOfPolygon{4, 6, 0}},
		{fan(0, 0, 3, 0, 0, 3), numbersOfPolygon{9, 9, 1}},
		{fan(5, 7, 6, 7, 6, 8, 5, 8), numbersOfPolygon{2, 4, 0}},
		{fan(-6, -7, -5, -7, -5, -6), numbersOfPolygon{1, 3, 0}},
		{fan(1, 0, 0, 1, -1, -1), numbersOfPolygon{3, 3, 1}},
		{fan(0, 1, -1, 0, 0, -1, 1, 0), numbersOfPolygon{4, 4, 1}},
		{fan(1, 0, 1, 1, 0, 1, -1, 0, -1, -1, 0, -1), numbersOfPolygon{6, 6, 1}},
		{fan(-1, -1, 2, -1, -1, 2), numbersOfPolygon{9, 9, 1}},
		{squareOf(1), numbersOfPolygon{8, 8, 1}},
		{squareOf(100), numbersOfPolygon{80000, 800, 199 * 199}},
		{fan(-100, -100, 100, -100, -100, 100), numbersOfPolygon{40000, 600, 19701}},
		{fan(-100, 0, 100, 0, 100, 1, -100, 1), numbersOfPolygon{400, 402, 0}},
		{fan(-100, -100, 99, 98, 100, 99), numbersOfPolygon{1, 3, 0}},
		{fan(-100, -100, 100, 99, 99, 100), numbersOfPolygon{399, 3, 199}},
		{fan(-100, 0, 0, -100, 100, 0, 0, 100), numbersOfPolygon{40000, 400, 19801}},
	}
	for _, c := range cases {
		for i := range c.p {
			checkNumbersOfPolygon(t, turnedTo(c.p, i), c.due, true)
		}
		checkNumbersOfPolygon(t, exchanged(c.p), c.due, true)
		checkNumbersOfPolygon(t, reversedFan(c.p), c.due, false)
	}
}

func TestPolygonNumbersOfNone(t *testing.T) {
	for _, p := range badPolygons() {
		checkNumbersOfPolygon(t, p, numbersOfPolygon{}, false)
	}
}
