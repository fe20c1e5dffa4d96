package tests

import (
	"math"
	"slices"
	"testing"

	"loop.example/toricfans/impl"
)

// checkPolygonTimes holds a multiple against that which is due, and tells whether there is one.
func checkPolygonTimes(t *testing.T, p Polygon, n int) bool {
	t.Helper()
	valid := isPolygon(p) && n >= 1 && n <= 20
	var due Polygon
	if valid {
		due, valid = changedOf(p, func(a Vec) Vec { return Vec{X: a.X * n, Y: a.Y * n} })
	}
	got, ok := impl.PolygonTimes(p, n)
	checkFan(t, "PolygonTimes", p, n, got, ok, due, valid)
	return valid
}

func TestPolygonTimes(t *testing.T) {
	valid, beyond := 0, 0
	for _, p := range polygonsAndNone() {
		for n := -1; n <= 22; n++ {
			if checkPolygonTimes(t, p, n) {
				valid++
			} else if isPolygon(p) && n >= 1 && n <= 20 {
				beyond++
			}
		}
		for _, n := range edgeNumbers() {
			checkPolygonTimes(t, p, n)
		}
	}
	atLeast(t, valid, 4000)
	atLeast(t, beyond, 2000)
}

func TestPolygonTimesOfSome(t *testing.T) {
	five := fan(5, 4, -5, 4, 5, -5)
	cases := []struct {
		p   Polygon
		n   int
		due Polygon
	}{
		{fan(1, 0, 0, 1, 0, 0), 1, fan(0, 0, 1, 0, 0, 1)},
		{fan(1, 0, 0, 1, 0, 0), 2, fan(0, 0, 2, 0, 0, 2)},
		{fan(1, 0, 0, 1, 0, 0), 20, fan(0, 0, 20, 0, 0, 20)},
		{fan(1, 0, 0, 1, 0, 0), 0, nil},
		{fan(1, 0, 0, 1, 0, 0), -1, nil},
		{fan(1, 0, 0, 1, 0, 0), 21, nil},
		{fan(1, 0, 0, 1, 0, 0), math.MinInt, nil},
		{fan(1, 0, 0, 1, 0, 0), math.MaxInt, nil},
		{five, 19, fan(-95, 76, 95, -95, 95, 76)},
		{five, 20, fan(-100, 80, 100, -100, 100, 80)},
		{five, 21, nil},
		{squareOf(6), 16, squareOf(96)},
		{squareOf(6), 17, nil},
		{squareOf(100), 1, squareOf(100)},
		{turnedTo(squareOf(100), 2), 1, squareOf(100)},
		{squareOf(100), 2, nil},
		{squareOf(50), 2, squareOf(100)},
		{fan(-51, 0, 0, -1, 1, 0), 2, nil},
		{fan(0, 0, 0, 1, 1, 0), 1, nil},
		{fan(0, 0, 0, 0, 1, 0), 2, nil},
		{squareOf(101), 1, nil},
		{nil, 1, nil},
	}
	for _, c := range cases {
		got, ok := impl.PolygonTimes(c.p, c.n)
		checkFan(t, "PolygonTimes", c.p, c.n, got, ok, c.due, c.due != nil)
	}
}

// checkPolygonShift holds a shifted polygon against that which is due, and tells whether there is one.
func checkPolygonShift(t *testing.T, p Polygon, a Vec) bool {
	t.Helper()
	valid := isPolygon(p) && isVec(a)
	var due Polygon
	if valid {
		due, valid = changedOf(p, func(c Vec) Vec { return Vec{X: c.X + a.X, Y: c.Y + a.Y} })
	}
	got, ok := impl.PolygonShift(p, a)
	checkFan(t, "PolygonShift", p, a, got, ok, due, valid)
	return valid
}

func TestPolygonShift(t *testing.T) {
	valid := 0
	vectors := append(goodVecs(), anyVecs()...)
	for i, p := range polygonsAndNone() {
		for k := i % 7; k < len(vectors); k += 7 {
			if checkPolygonShift(t, p, vectors[k]) {
				valid++
			}
		}
	}
	atLeast(t, valid, 10000)
}

// TestPolygonShiftToTheLimit shifts each polygon so far that it reaches each side and each edge of what there is, and one further.
func TestPolygonShiftToTheLimit(t *testing.T) {
	for _, p := range goodPolygons() {
		box := boxOf(p)
		for _, more := range []int{0, 1} {
			for _, x := range []int{100 - box[1] + more, -100 - box[0] - more} {
				if checkPolygonShift(t, p, Vec{X: x}) != (more == 0) {
					t.Errorf("%v shifted by %d is not as told", p, x)
				}
				for _, y := range []int{100 - box[3], -100 - box[2]} {
					if checkPolygonShift(t, p, Vec{X: x, Y: y}) != (more == 0) {
						t.Errorf("%v shifted by %d, %d is not as told", p, x, y)
					}
				}
			}
			for _, y := range []int{100 - box[3] + more, -100 - box[2] - more} {
				if checkPolygonShift(t, p, Vec{Y: y}) != (more == 0) {
					t.Errorf("%v shifted by %d is not as told", p, y)
				}
			}
		}
	}
}

func TestPolygonShiftOfSome(t *testing.T) {
	corner := fan(100, 99, 100, 100, 99, 100)
	cases := []struct {
		p   Polygon
		a   Vec
		due Polygon
	}{
		{fan(0, 1, 0, 0, 1, 0), Vec{X: 3, Y: -4}, fan(3, -4, 4, -4, 3, -3)},
		{fan(0, 1, 0, 0, 1, 0), Vec{}, fan(0, 0, 1, 0, 0, 1)},
		{corner, Vec{X: -199, Y: -199}, fan(-100, -99, -99, -100, -99, -99)},
		{corner, Vec{X: -200, Y: -199}, nil},
		{corner, Vec{X: -199, Y: -200}, nil},
		{corner, Vec{X: 1}, nil},
		{corner, Vec{Y: 1}, nil},
		{corner, Vec{X: -1000, Y: -1000}, nil},
		{corner, Vec{X: -1001}, nil},
		{corner, Vec{X: math.MaxInt, Y: math.MinInt}, nil},
		{squareOf(100), Vec{}, squareOf(100)},
		{squareOf(100), Vec{X: 1}, nil},
		{squareOf(100), Vec{Y: -1}, nil},
		{squareOf(99), Vec{X: 1, Y: -1}, fan(-98, -100, 100, -100, 100, 98, -98, 98)},
		{fan(0, 0, 0, 1, 1, 0), Vec{}, nil},
		{fan(101, 0, 102, 0, 101, 1), Vec{X: -50}, nil},
		{nil, Vec{}, nil},
	}
	for _, c := range cases {
		got, ok := impl.PolygonShift(c.p, c.a)
		checkFan(t, "PolygonShift", c.p, c.a, got, ok, c.due, c.due != nil)
	}
}

// checkPolygonMove holds a moved polygon against that which is due, and tells whether there is one.
func checkPolygonMove(t *testing.T, p Polygon, m Mat) bool {
	t.Helper()
	valid := isPolygon(p) && isMat(m)
	var due Polygon
	if valid {
		due, valid = changedOf(p, func(a Vec) Vec { return moved(m, a) })
	}
	got, ok := impl.PolygonMove(p, m)
	checkFan(t, "PolygonMove", p, m, got, ok, due, valid)
	return valid
}

func TestPolygonMove(t *testing.T) {
	same, over, beyond := 0, 0, 0
	mats := append(goodMats(), badMats()...)
	for i, p := range polygonsAndNone() {
		for k := i % 3; k < len(mats); k += 3 {
			switch told := checkPolygonMove(t, p, mats[k]); {
			case told && det(mats[k]) == 1:
				same++
			case told:
				over++
			case isPolygon(p) && isMat(mats[k]):
				beyond++
			}
		}
	}
	atLeast(t, same, 4000)
	atLeast(t, over, 4000)
	atLeast(t, beyond, 4000)
}

func TestPolygonMoveOfSome(t *testing.T) {
	long := fan(0, 0, 3, 0, 0, 2)
	cases := []struct {
		p   Polygon
		m   Mat
		due Polygon
	}{
		{long, Mat{A: 1, B: 0, C: 0, D: 1}, long},
		{turnedTo(long, 1), Mat{A: 1, B: 0, C: 0, D: 1}, long},
		{long, Mat{A: -1, B: 0, C: 0, D: 1}, fan(-3, 0, 0, 0, 0, 2)},
		{long, Mat{A: 1, B: 0, C: 0, D: -1}, fan(0, -2, 3, 0, 0, 0)},
		{long, Mat{A: 0, B: 1, C: 1, D: 0}, fan(0, 0, 2, 0, 0, 3)},
		{long, Mat{A: 0, B: -1, C: 1, D: 0}, fan(-2, 0, 0, 0, 0, 3)},
		{long, Mat{A: -1, B: 0, C: 0, D: -1}, fan(-3, 0, 0, -2, 0, 0)},
		{long, Mat{A: 1, B: 1, C: 0, D: 1}, fan(0, 0, 3, 0, 2, 2)},
		{long, Mat{A: 1, B: 50, C: 0, D: 1}, fan(0, 0, 3, 0, 100, 2)},
		{long, Mat{A: 1, B: -50, C: 0, D: -1}, fan(-100, -2, 3, 0, 0, 0)},
		{long, Mat{A: 1, B: 51, C: 0, D: 1}, nil},
		{long, Mat{A: 1, B: 1000, C: 0, D: 1}, nil},
		{fan(0, 0, 1, 0, 1, 1), Mat{A: 100, B: -1, C: 1, D: 0}, fan(0, 0, 100, 1, 99, 1)},
		{fan(0, 0, 1, 0, 1, 1), Mat{A: 101, B: -1, C: 1, D: 0}, nil},
		{fan(-100, -100, 99, 98, 100, 99), Mat{A: 0, B: 1, C: 1, D: 0}, fan(-100, -100, 99, 100, 98, 99)},
		{long, Mat{A: 2, B: 0, C: 0, D: 1}, nil},
		{long, Mat{}, nil},
		{long, Mat{A: 1001, B: 1000, C: 1, D: 1}, nil},
		{long, Mat{A: math.MinInt, B: 1, C: -1, D: 0}, nil},
		{long, Mat{A: 3, B: 0, C: 0, D: wrapper}, nil},
		{reversedFan(long), Mat{A: 1, B: 0, C: 0, D: -1}, nil},
		{fan(0, 0, 1, 0, 2, 0), Mat{A: 1, B: 0, C: 0, D: 1}, nil},
		{squareOf(100), Mat{A: 0, B: 1, C: -1, D: 0}, squareOf(100)},
		{squareOf(100), Mat{A: 0, B: 1, C: 1, D: 0}, squareOf(100)},
		{squareOf(100), Mat{A: 1, B: 1, C: 0, D: 1}, nil},
		{squareOf(50), Mat{A: 1, B: 1, C: 0, D: 1}, fan(-100, -50, 0, -50, 100, 50, 0, 50)},
		{nil, Mat{A: 1, B: 0, C: 0, D: 1}, nil},
	}
	for _, c := range cases {
		got, ok := impl.PolygonMove(c.p, c.m)
		checkFan(t, "PolygonMove", c.p, c.m, got, ok, c.due, c.due != nil)
	}
}

// normalsOf returns the inward normals, those that are met first ahead.
func normalsOf(p Polygon) Fan {
	var rays Fan
	for _, way := range waysOf(p) {
		n := commonDivisor(way.X, way.Y)
		rays = append(rays, Vec{X: -way.Y / n, Y: way.X / n})
	}
	return sortedFan(rays)
}

func checkPolygonNormals(t *testing.T, p Polygon) bool {
	t.Helper()
	valid := isPolygon(p)
	var due Fan
	if valid {
		due = normalsOf(p)
		valid = isFan(due)
	}
	got, ok := impl.PolygonNormals(p)
	checkFan(t, "PolygonNormals", p, nil, got, ok, due, valid)
	return valid
}

func TestPolygonNormals(t *testing.T) {
	valid, none := 0, 0
	for _, p := range polygonsAndNone() {
		turns := []Polygon{p}
		if isPolygon(p) {
			turns = allTurns(p)
		}
		for _, q := range turns {
			if checkPolygonNormals(t, q) {
				valid++
			} else if isPolygon(q) {
				none++
			}
		}
	}
	atLeast(t, valid, 2000)
	atLeast(t, none, 300)
}

// TestPolygonNormalsOfManyCorners has a fan for as many corners as there are rays at the most.
func TestPolygonNormalsOfManyCorners(t *testing.T) {
	for corners := 3; corners <= 31; corners++ {
		for _, size := range []int{4, 6} {
			p := turnedTo(roundPolygon(size, corners), corners/2)
			if checkPolygonNormals(t, p) != (corners <= 20) {
				t.Errorf("the normals of %v are not as told", p)
			}
		}
	}
}

// TestPolygonNormalsReachOut holds the rays against what they are for: with all vectors of an edge, and with no others, each has the least product of all.
func TestPolygonNormalsReachOut(t *testing.T) {
	for _, p := range gridPolygons() {
		rays, ok := impl.PolygonNormals(p)
		if !ok || len(rays) != len(p) {
			t.Errorf("PolygonNormals(%v) returned %v, %v", p, rays, ok)
		}
		for _, ray := range rays {
			products := productsOf(ray, p)
			least := slices.Min(products)
			times := 0
			for _, n := range products {
				if n == least {
					times++
				}
			}
			if times != 2 {
				t.Errorf("the ray %v of %v is not at right angles to an edge", ray, p)
			}
		}
	}
}

func TestPolygonNormalsOfSome(t *testing.T) {
	cases := []struct {
		p   Polygon
		due Fan
	}{
		{fan(0, 0, 1, 0, 0, 1), fan(1, 0, 0, 1, -1, -1)},
		{fan(0, 0, 7, 0, 0, 7), fan(1, 0, 0, 1, -1, -1)},
		{fan(7, 0, 0, 7, 0, 0), fan(1, 0, 0, 1, -1, -1)},
		{fan(0, 0, -1, 0, 0, -1), fan(1, 1, -1, 0, 0, -1)},
		{squareOf(1), fan(1, 0, 0, 1, -1, 0, 0, -1)},
		{turnedTo(squareOf(100), 3), fan(1, 0, 0, 1, -1, 0, 0, -1)},
		{fan(0, 0, 4, 0, 2, 2, 0, 2), fan(1, 0, 0, 1, -1, -1, 0, -1)},
		{fan(0, 0, 4, 2, 0, 4), fan(1, 0, -1, 2, -1, -2)},
		{fan(-100, -100, 99, 98, 100, 99), fan(-198, 199, -1, 1, 199, -200)},
		{fan(-100, -100, 100, 99, 99, 100), fan(-199, 200, -1, -1, 200, -199)},
		{fan(0, 0, 1, 0, 2, 0), nil},
		{fan(0, 0, 0, 1, 1, 0), nil},
		{squareOf(101), nil},
		{nil, nil},
	}
	for _, c := range cases {
		got, ok := impl.PolygonNormals(c.p)
		checkFan(t, "PolygonNormals", c.p, nil, got, ok, c.due, c.due != nil)
	}
}
