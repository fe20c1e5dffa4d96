package tests

import (
	"slices"
	"testing"

	"loop.example/toricfans/impl"
)

// matLeading returns the matrix that moves a to c and b to d, and whether it is one as told; its numbers are found one by one, as quotients of determinants.
func matLeading(a, b, c, d Vec) (Mat, bool) {
	n := vecDetOf(a, b)
	quotients := []int{c.X*b.Y - d.X*a.Y, a.X*d.X - b.X*c.X, c.Y*b.Y - d.Y*a.Y, a.X*d.Y - b.X*c.Y}
	for i, q := range quotients {
		if q%n != 0 {
			return Mat{}, false
		}
		quotients[i] = q / n
	}
	m := Mat{A: quotients[0], B: quotients[1], C: quotients[2], D: quotients[3]}
	return m, isMat(m)
}

// leadsAll reports whether a matrix, and the shift that leads the first corner where it is to lead, lead to all corners of another polygon, in whatever order.
func leadsAll(m Mat, p, q Polygon, first Vec) bool {
	start := moved(m, p[0])
	for _, a := range p {
		b := moved(m, a)
		if !slices.Contains(q, Vec{X: b.X - start.X + first.X, Y: b.Y - start.Y + first.Y}) {
			return false
		}
	}
	return len(p) == len(q)
}

// areSame tries all places to which the first three corners may lead, in whatever order the others do.
func areSame(p, q Polygon) bool {
	if !isPolygon(p) || !isPolygon(q) || len(p) != len(q) {
		return false
	}
	for _, a := range q {
		for _, b := range q {
			for _, c := range q {
				m, ok := matLeading(wayOf(p[0], p[1]), wayOf(p[0], p[2]), wayOf(a, b), wayOf(a, c))
				if ok && leadsAll(m, p, q, a) {
					return true
				}
			}
		}
	}
	return false
}

func checkSame(t *testing.T, p, q Polygon, due bool) {
	t.Helper()
	if got := impl.PolygonSame(p, q); got != due {
		t.Errorf("PolygonSame(%v, %v) returned %v", p, q, got)
	}
}

// measureOf returns what is equal for polygons that are the same: the number of corners, twice the area, and the number of edge vectors.
func measureOf(p Polygon) [3]int {
	edge := 0
	for _, way := range waysOf(p) {
		edge += commonDivisor(way.X, way.Y)
	}
	return [3]int{len(p), areaOf(p), edge}
}

// similar has triangles, and polygons with four corners, of which many have the same area and as many edge vectors.
func similar() []Polygon {
	var list []Polygon
	for n := 5; n <= 13; n++ {
		for k := 2; k < n; k++ {
			list = append(list, turnedTo(fan(0, 0, 1, 0, k, n), k%3), turnedTo(fan(0, 0, 1, 0, k+1, n, k, n), n%4))
		}
	}
	return list
}

// TestPolygonSameOfPairs takes small polygons, among them many that are the same, and many that only seem so.
func TestPolygonSameOfPairs(t *testing.T) {
	polygons := slices.Concat(gridPolygons(), anyPolygons(70), similar())
	same, seeming := 0, 0
	for i, p := range polygons {
		for k := i % 2; k < len(polygons); k += 2 {
			q := polygons[k]
			due := areSame(p, q)
			checkSame(t, p, q, due)
			if due {
				same++
			} else if measureOf(p) == measureOf(q) {
				seeming++
			}
		}
	}
	atLeast(t, same, 2000)
	atLeast(t, seeming, 300)
}

// TestPolygonSameOfMoved moves and shifts polygons, turns some over, and begins them at different corners.
func TestPolygonSameOfMoved(t *testing.T) {
	straight, over := 0, 0
	mats := goodMats()
	for i, p := range goodPolygons() {
		for k := i % 5; k < len(mats); k += 5 {
			least := boxOf(changedList(p, mats[k]))
			if least[1]-least[0] > 200 || least[3]-least[2] > 200 {
				continue
			}
			q, ok := changedOf(p, func(a Vec) Vec {
				b := moved(mats[k], a)
				return Vec{X: b.X - least[0] - 100, Y: b.Y - least[2] - 100}
			})
			if !ok {
				t.Fatalf("%v moved by %v is %v", p, mats[k], q)
			}
			q = turnedTo(q, k%len(q))
			checkSame(t, p, q, true)
			checkSame(t, q, p, true)
			if det(mats[k]) == 1 {
				straight++
			} else {
				over++
			}
		}
	}
	atLeast(t, straight, 4000)
	atLeast(t, over, 4000)
}

// changedList moves all corners, and leaves them in their order.
func changedList(p Polygon, m Mat) []Vec {
	var list []Vec
	for _, a := range p {
		list = append(list, moved(m, a))
	}
	return list
}

// TestPolygonSameOfAllTurns begins polygons, and the same ones turned over, at each corner.
func TestPolygonSameOfAllTurns(t *testing.T) {
	for _, p := range slices.Concat(greatPolygons(), emptyPolygons(), []Polygon{roundPolygon(4, 7), roundPolygon(4, 12), roundPolygon(12, 30)}) {
		over := exchanged(p)
		for i := range p {
			checkSame(t, p, turnedTo(p, i), true)
			checkSame(t, turnedTo(p, i), over, true)
			checkSame(t, turnedTo(over, i), turnedTo(p, i*i%len(p)), true)
			checkSame(t, p, reversedFan(turnedTo(p, i)), false)
		}
	}
}

// TestPolygonSameOfNearlySame changes one corner of polygons with many corners.
func TestPolygonSameOfNearlySame(t *testing.T) {
	differ := 0
	for _, p := range append(roundPolygons(), anyPolygons(70)...) {
		for i := range p {
			for _, a := range fan(1, 0, -1, 0, 0, 1, 0, -1) {
				q := withRay(p, i, Vec{X: p[i].X + a.X, Y: p[i].Y + a.Y})
				if len(p) > 8 && i%5 != len(p)%5 {
					continue
				}
				due := areSame(p, q)
				checkSame(t, p, q, due)
				checkSame(t, q, p, due)
				if isPolygon(q) && !due {
					differ++
				}
			}
		}
	}
	atLeast(t, differ, 500)
}

// scalene is a triangle that leads to itself in no other way, moved by a matrix and shifted to within the limits.
func scalene(m Mat) Polygon {
	list := changedList(fan(0, 0, 2, 0, 0, 3), m)
	box := boxOf(list)
	for i := range list {
		list[i].X -= (box[0] + box[1]) / 2
		list[i].Y -= (box[2] + box[3]) / 2
	}
	return hullOf(list)
}

// TestPolygonSameAtTheLimitOfMatrices has triangles between which just one matrix leads, with 1000 or 1001, or the opposite, at one place.
func TestPolygonSameAtTheLimitOfMatrices(t *testing.T) {
	cases := []struct {
		m, n, due Mat
	}{
		{Mat{A: 11, B: -12, C: 23, D: -25}, Mat{A: 17, B: 25, C: -15, D: -22}, Mat{A: -1000, B: 479, C: 881, D: -422}},
		{Mat{A: -16, B: -1, C: 49, D: 3}, Mat{A: 23, B: -19, C: 17, D: -14}, Mat{A: 1000, B: 327, C: 737, D: 241}},
		{Mat{A: -73, B: -63, C: -22, D: -19}, Mat{A: 27, B: 37, C: -19, D: -26}, Mat{A: 301, B: -1000, C: -211, D: 701}},
		{Mat{A: -50, B: -17, C: 3, D: 1}, Mat{A: -50, B: -37, C: -27, D: -20}, Mat{A: 61, B: 1000, C: 33, D: 541}},
		{Mat{A: 3, B: 1, C: 65, D: 22}, Mat{A: 34, B: 21, C: 55, D: 34}, Mat{A: -617, B: 29, C: -1000, D: 47}},
		{Mat{A: -41, B: -8, C: 77, D: 15}, Mat{A: -33, B: 4, C: 41, D: -5}, Mat{A: -803, B: -428, C: 1000, D: 533}},
		{Mat{A: 25, B: -17, C: 3, D: -2}, Mat{A: -12, B: -11, C: -25, D: -23}, Mat{A: 57, B: -479, C: 119, D: -1000}},
		{Mat{A: 31, B: 12, C: -13, D: -5}, Mat{A: -50, B: -51, C: 51, D: 52}, Mat{A: -413, B: -981, C: 421, D: 1000}},
		{Mat{A: -35, B: 22, C: -43, D: 27}, Mat{A: -53, B: 10, C: -16, D: 3}, Mat{A: -1001, B: 816, C: -303, D: 247}},
		{Mat{A: -2, B: -1, C: 31, D: 15}, Mat{A: 75, B: 4, C: 56, D: 3}, Mat{A: 1001, B: 67, C: 747, D: 50}},
		{Mat{A: -90, B: -41, C: 11, D: 5}, Mat{A: -31, B: -3, C: 21, D: 2}, Mat{A: -122, B: -1001, C: 83, D: 681}},
		{Mat{A: -89, B: -63, C: -24, D: -17}, Mat{A: 6, B: -7, C: 1, D: -1}, Mat{A: -270, B: 1001, C: -41, D: 152}},
		{Mat{A: 14, B: 13, C: -27, D: -25}, Mat{A: 31, B: 7, C: 53, D: 12}, Mat{A: -586, B: -305, C: -1001, D: -521}},
		{Mat{A: 32, B: 11, C: 61, D: 21}, Mat{A: -29, B: -3, C: 68, D: 7}, Mat{A: -426, B: 223, C: 1001, D: -524}},
		{Mat{A: -69, B: 4, C: -52, D: 3}, Mat{A: -21, B: -2, C: 95, D: 9}, Mat{A: -167, B: 222, C: 753, D: -1001}},
		{Mat{A: 83, B: 16, C: -26, D: -5}, Mat{A: 19, B: 10, C: 36, D: 19}, Mat{A: 165, B: 526, C: 314, D: 1001}},
	}
	for _, c := range cases {
		p, q := scalene(c.m), scalene(c.n)
		if !isPolygon(p) || !isPolygon(q) || matProduct(c.due, c.m) != c.n {
			t.Errorf("%v and %v are not as told", p, q)
		}
		for i := range 3 {
			for _, r := range []Polygon{turnedTo(q, i), turnedTo(exchanged(q), i)} {
				if areSame(p, r) != isMat(c.due) {
					t.Errorf("%v and %v are not as told", p, r)
				}
				checkSame(t, p, r, isMat(c.due))
				checkSame(t, r, p, isMat(c.due))
				checkSame(t, exchanged(p), r, isMat(c.due))
				checkSame(t, p, exchanged(r), isMat(c.due))
			}
		}
	}
}

func TestPolygonSameOfSome(t *testing.T) {
	long := fan(0, 0, 3, 0, 0, 2)
	cases := []struct {
		p, q Polygon
		due  bool
	}{
		{long, long, true},
		{long, turnedTo(long, 2), true},
		{long, fan(-100, -100, -97, -100, -100, -98), true},
		{fan(97, 98, 100, 98, 97, 100), fan(-100, -100, -97, -100, -100, -98), true},
		{long, fan(0, 0, 2, 0, 0, 3), true},
		{long, fan(0, 0, -3, 0, 0, -2), true},
		{long, fan(0, 0, 0, -2, 3, 0), true},
		{long, fan(-3, 0, 0, 0, 0, 2), true},
		{long, fan(0, 0, 0, 2, 3, 0), false},
		{long, fan(0, 0, 6, 0, 0, 1), false},
		{long, fan(0, 0, 6, 0, 0, 4), false},
		{fan(0, 0, 6, 0, 0, 4), long, false},
		{fan(0, 0, 1, 0, 2, 7), fan(0, 0, 1, 0, 3, 7), false},
		{fan(0, 0, 1, 0, 2, 7), fan(0, 0, 1, 0, 4, 7), true},
		{fan(0, 0, 1, 0, 2, 7), fan(0, 0, 1, 0, 6, 7), true},
		{fan(0, 0, 1, 0, 3, 7), fan(0, 0, 1, 0, 5, 7), true},
		{fan(0, 0, 1, 0, 3, 8), fan(0, 0, 1, 0, 5, 8), false},
		{squareOf(1), squareOf(1), true},
		{squareOf(1), fan(-1, 0, 0, -1, 1, 0, 0, 1), false},
		{squareOf(1), fan(0, 0, 2, 0, 4, 2, 2, 2), true},
		{squareOf(1), squareOf(2), false},
		{squareOf(1), fan(0, 0, 4, 0, 4, 1, 0, 1), false},
		{fan(0, 0, 1, 0, 1, 1, 0, 1), fan(0, 0, 2, 0, 0, 1), false},
		{fan(0, 0, 2, 0, 0, 1), fan(0, 0, 1, 0, 1, 1, 0, 1), false},
		{fan(0, 0, 3, 0, 2, 1, 0, 1), fan(0, 0, 3, 0, 3, 1, 1, 1), true},
		{fan(0, 0, 3, 0, 2, 1, 0, 1), fan(0, 0, 4, 0, 1, 1, 0, 1), false},
		{fan(0, 0, 1, 0, 0, 1), fan(-100, -100, 99, 98, 100, 99), true},
		{fan(-100, 100, 99, -99, 100, -99), fan(-100, -100, 99, 98, 100, 99), false},
		{long, nil, false},
		{nil, long, false},
		{nil, nil, false},
		{reversedFan(long), reversedFan(long), false},
		{fan(0, 0, 1, 0, 2, 0), fan(0, 0, 1, 0, 2, 0), false},
		{squareOf(101), squareOf(101), false},
		{squareOf(100), squareOf(101), false},
		{squareOf(100), squareOf(100), true},
	}
	for _, c := range cases {
		if areSame(c.p, c.q) != c.due {
			t.Errorf("%v and %v are not as told", c.p, c.q)
		}
		checkSame(t, c.p, c.q, c.due)
		checkSame(t, c.q, c.p, c.due)
	}
}

func TestPolygonSameOfNone(t *testing.T) {
	polygons := goodPolygons()
	for i, p := range badPolygons() {
		checkSame(t, p, p, false)
		checkSame(t, p, reversedFan(p), false)
		checkSame(t, p, polygons[i%len(polygons)], false)
		checkSame(t, polygons[i%len(polygons)], p, false)
	}
}
