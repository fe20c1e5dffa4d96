package tests

import (
	"math"
	"slices"
	"testing"

	"loop.example/toricfans/impl"
)

// fromDown returns the angle at which the ways from a tidy first corner on are gone, from just above that of straight down to this one itself.
func fromDown(way Vec) float64 {
	if way.X == 0 && way.Y < 0 {
		return 2 * math.Pi
	}
	return angle(Vec{X: -way.Y, Y: way.X})
}

// addedUp begins at the sum of both tidy first corners, and goes all ways of both polygons in the order of their directions, those of one direction at once.
func addedUp(p, q Polygon) Polygon {
	a, b := tidyOf(p)[0], tidyOf(q)[0]
	ways := slices.Concat(waysOf(p), waysOf(q))
	slices.SortFunc(ways, func(v, w Vec) int {
		if vecDetOf(v, w) == 0 && vecProductOf(v, w) > 0 {
			return 0
		}
		if fromDown(v) < fromDown(w) {
			return -1
		}
		return 1
	})
	corner := Vec{X: a.X + b.X, Y: a.Y + b.Y}
	var sum Polygon
	for i, way := range ways {
		if last := lastOf(ways, i); vecDetOf(last, way) != 0 || vecProductOf(last, way) < 0 {
			sum = append(sum, corner)
		}
		corner = Vec{X: corner.X + way.X, Y: corner.Y + way.Y}
	}
	return sum
}

// mixedOf adds, for each way of the second polygon, how far the first one reaches out at right angles to it: no sum of both is asked for.
func mixedOf(p, q Polygon) int {
	sum := 0
	for _, way := range waysOf(q) {
		most := math.MinInt
		for _, a := range p {
			most = max(most, vecDetOf(a, way))
		}
		sum += most
	}
	return sum
}

// checkSum holds the sum and the mixed area of two lists against those that are due.
func checkSum(t *testing.T, p, q Polygon) bool {
	t.Helper()
	valid := isPolygon(p) && isPolygon(q)
	var due Polygon
	area := 0
	if valid {
		due, area = addedUp(p, q), mixedOf(p, q)
		valid = isPolygon(due)
	}
	got, ok := impl.PolygonSum(p, q)
	checkFan(t, "PolygonSum", p, q, got, ok, due, valid)
	n, ok := impl.PolygonMixed(p, q)
	checkOfPolygon(t, "PolygonMixed", p, q, n, ok, area, valid)
	return valid
}

// parallels returns how many ways of two polygons have the same direction.
func parallels(p, q Polygon) int {
	number := 0
	for _, v := range waysOf(p) {
		for _, w := range waysOf(q) {
			if vecDetOf(v, w) == 0 && vecProductOf(v, w) > 0 {
				number++
			}
		}
	}
	return number
}

func TestPolygonSum(t *testing.T) {
	valid, parallel, apart, corners, beyond := 0, 0, 0, 0, 0
	polygons := goodPolygons()
	for i, p := range polygons {
		for k := i % 5; k < len(polygons); k += 5 {
			q := polygons[k]
			switch told := checkSum(t, p, q); {
			case told && parallels(p, q) > 0:
				valid++
				parallel++
			case told:
				valid++
				apart++
			case sizeOf(addedUp(p, q)) > 100:
				beyond++
			default:
				corners++
			}
		}
	}
	atLeast(t, valid, 10000)
	atLeast(t, parallel, 5000)
	atLeast(t, apart, 2000)
	atLeast(t, beyond, 5000)
	atLeast(t, corners, 50)
}

// TestPolygonSumHasAllSums adds all vectors of small polygons one by one: each sum is one of the sum, and each corner is one of the sums.
func TestPolygonSumHasAllSums(t *testing.T) {
	polygons := gridPolygons()
	for i, p := range polygons {
		q := polygons[i*i*7%len(polygons)]
		sum, ok := impl.PolygonSum(p, q)
		if !ok {
			t.Errorf("PolygonSum(%v, %v) failed", p, q)
			continue
		}
		var sums []Vec
		for _, a := range allVectorsOf(p) {
			for _, b := range allVectorsOf(q) {
				sums = append(sums, Vec{X: a.X + b.X, Y: a.Y + b.Y})
			}
		}
		checkFan(t, "PolygonSum", p, q, sum, ok, hullOf(sums), true)
		for _, c := range allVectorsOf(sum) {
			if !slices.Contains(sums, c) {
				t.Errorf("%v of the sum of %v and %v is no sum", c, p, q)
			}
		}
	}
}

// allVectorsOf returns the inner vectors and the edge ones.
func allVectorsOf(p Polygon) []Vec {
	inner, edge := vectorsOf(p)
	return append(inner, edge...)
}

// TestPolygonSumAtTheLimit adds polygons whose sum just reaches the limit, or is one beyond it, on each side.
func TestPolygonSumAtTheLimit(t *testing.T) {
	for _, p := range quarterTurns(fan(-10, -9, 60, 0, 7, 8)) {
		for _, q := range quarterTurns(fan(-3, -5, 20, 1, 19, 6, 1, 2)) {
			box := boxOf(addedUp(p, q))
			for _, size := range []int{99, 100, 101, 102} {
				for _, a := range []Vec{{X: size - box[1]}, {X: -size - box[0]}, {Y: size - box[3]}, {Y: -size - box[2]}} {
					r, ok := changedOf(q, func(c Vec) Vec { return Vec{X: c.X + a.X, Y: c.Y + a.Y} })
					if !ok || checkSum(t, p, r) != (size <= 100) || checkSum(t, r, p) != (size <= 100) {
						t.Errorf("the sum of %v and %v is not as told", p, r)
					}
				}
			}
		}
	}
	for _, size := range []int{49, 50, 51} {
		if checkSum(t, squareOf(50), squareOf(size)) != (size <= 50) {
			t.Errorf("the sum of squares is not as told")
		}
	}
}

// TestPolygonSumOfManyCorners adds polygons whose ways have 30 directions together, or more or fewer ones, and of which they share some.
func TestPolygonSumOfManyCorners(t *testing.T) {
	steps := stepsOf(6, 15)
	for number := 2; number <= 13; number++ {
		for shared := 0; shared <= 15-number; shared += 3 {
			p := closed(bothWays(steps[:number+shared]))
			for _, c := range []struct {
				q     Polygon
				valid bool
			}{
				{closed(bothWays(steps[number:])), true},
				{closed(append(bothWays(steps[number:]), threeWays()...)), false},
				{closed(append(bothWays(steps[number:14]), threeWays()...)), false},
				{closed(append(bothWays(steps[number:13]), threeWays()...)), number+shared <= 13},
				{p, true},
				{reversedFan(p), false},
			} {
				if checkSum(t, p, c.q) != c.valid || checkSum(t, c.q, p) != c.valid {
					t.Errorf("the sum of %v and %v is not as told", p, c.q)
				}
			}
		}
	}
}

func TestPolygonSumOfSome(t *testing.T) {
	triangle, square, other := fan(0, 0, 1, 0, 0, 1), fan(0, 0, 1, 0, 1, 1, 0, 1), fan(0, 0, -1, 0, 0, -1)
	cases := []struct {
		p, q, due Polygon
		mixed     int
	}{
		{triangle, triangle, fan(0, 0, 2, 0, 0, 2), 1},
		{triangle, square, fan(0, 0, 2, 0, 2, 1, 1, 2, 0, 2), 2},
		{triangle, other, fan(-1, 0, 0, -1, 1, -1, 1, 0, 0, 1, -1, 1), 2},
		{square, square, fan(0, 0, 2, 0, 2, 2, 0, 2), 2},
		{square, turnedTo(square, 3), fan(0, 0, 2, 0, 2, 2, 0, 2), 2},
		{fan(1, 0, 0, 1, -1, -1), fan(1, 0, 0, 1, -1, -1), fan(-2, -2, 2, 0, 0, 2), 3},
		{fan(-50, 0, 50, 0, 50, 1, -50, 1), fan(0, -50, 1, -50, 1, 50, 0, 50), fan(-50, -50, 51, -50, 51, 51, -50, 51), 10001},
		{fan(-50, 0, 50, 0, 50, 1, -50, 1), fan(-50, -50, 50, -50, 50, 50, -50, 50), fan(-100, -50, 100, -50, 100, 51, -100, 51), 10100},
		{fan(-50, 0, 51, 0, 50, 1, -50, 1), fan(-50, -50, 50, -50, 50, 50, -50, 50), nil, 0},
		{squareOf(100), triangle, nil, 0},
		{fan(-100, -100, 99, -100, 99, 99, -100, 99), triangle, fan(-100, -100, 100, -100, 100, 99, 99, 100, -100, 100), 398},
		{fan(0, 0, 1, 0, 0, 1), fan(0, 0, 0, 1, 1, 0), nil, 0},
		{fan(0, 0, 0, 1, 1, 0), fan(0, 0, 1, 0, 0, 1), nil, 0},
		{triangle, fan(101, 0, 1, 1, 1, 0), nil, 0},
		{fan(100, 99, 100, 100, 99, 100), fan(-100, -100, -99, -100, -100, -99), fan(-1, 0, 0, -1, 1, -1, 1, 0, 0, 1, -1, 1), 2},
		{triangle, nil, nil, 0},
		{nil, nil, nil, 0},
	}
	for _, c := range cases {
		got, ok := impl.PolygonSum(c.p, c.q)
		checkFan(t, "PolygonSum", c.p, c.q, got, ok, c.due, c.due != nil)
		n, ok := impl.PolygonMixed(c.p, c.q)
		checkOfPolygon(t, "PolygonMixed", c.p, c.q, n, ok, c.mixed, c.due != nil)
	}
}

func TestPolygonSumOfNone(t *testing.T) {
	polygons := goodPolygons()
	bad := badPolygons()
	for i, p := range bad {
		for _, q := range []Polygon{polygons[i*13%len(polygons)], bad[i*17%len(bad)], p, squareOf(1)} {
			if checkSum(t, p, q) || checkSum(t, q, p) {
				t.Errorf("%v has a sum with %v", p, q)
			}
		}
	}
}
