package tests

import (
	"slices"
	"testing"

	"loop.example/toricfans/impl"
)

// These tests hold the functions of chapter 6 against each other, promise by promise, as those of the chapters 1 to 5 do.

// needed ends a test where a function that must succeed fails.
func needed[T any](t *testing.T, name string, p Polygon) func(result T, ok bool) T {
	return func(result T, ok bool) T {
		t.Helper()
		if !ok {
			t.Fatalf("%s(%v) failed", name, p)
		}
		return result
	}
}

func polygonTidy(t *testing.T, p Polygon) Polygon {
	t.Helper()
	return needed[Polygon](t, "PolygonTidy", p)(impl.PolygonTidy(p))
}

func polygonArea(t *testing.T, p Polygon) int {
	t.Helper()
	return needed[int](t, "PolygonArea", p)(impl.PolygonArea(p))
}

func polygonEdge(t *testing.T, p Polygon) int {
	t.Helper()
	return needed[int](t, "PolygonEdge", p)(impl.PolygonEdge(p))
}

func polygonInner(t *testing.T, p Polygon) int {
	t.Helper()
	return needed[int](t, "PolygonInner", p)(impl.PolygonInner(p))
}

// checkEqual holds what a promise tells of a polygon.
func checkEqual(t *testing.T, what string, p Polygon, got, due int) {
	t.Helper()
	if got != due {
		t.Errorf("%s of %v: %d, not %d", what, p, got, due)
	}
}

// eachPair calls a function for pairs of lists, polygons and none, and for each one and itself.
func eachPair(look func(p, q Polygon)) {
	polygons := polygonsAndNone()
	for i, p := range polygons {
		look(p, p)
		for k := i % 11; k < len(polygons); k += 11 {
			look(p, polygons[k])
		}
	}
}

func TestPromise58(t *testing.T) {
	all := 0
	for _, p := range polygonsAndNone() {
		if !impl.PolygonIn(p) {
			continue
		}
		all++
		for _, a := range p {
			checkPolygonHas(t, p, a, true)
		}
		got, ok := impl.PolygonOf(p)
		checkFan(t, "PolygonOf", p, nil, got, ok, polygonTidy(t, p), true)
	}
	atLeast(t, all, 500)
}

func TestPromise59(t *testing.T) {
	all := 0
	for _, p := range polygonsAndNone() {
		q, ok := impl.PolygonTidy(p)
		if !ok {
			continue
		}
		all++
		if !impl.PolygonIn(q) {
			t.Errorf("PolygonTidy(%v) is no polygon: %v", p, q)
		}
		checkEqual(t, "the area of the tidy one", p, polygonArea(t, q), polygonArea(t, p))
		again, ok := impl.PolygonTidy(q)
		checkFan(t, "PolygonTidy", q, nil, again, ok, q, true)
	}
	atLeast(t, all, 500)
}

func TestPromise60(t *testing.T) {
	all := 0
	var s series
	lists := polygonsAndNone()
	for i := range 3000 {
		lists = append(lists, s.vecs(3+s.next(60), []int{1, 2, 5, 20, 100, 101}[i%6]))
	}
	for _, list := range lists {
		p, ok := impl.PolygonOf(list)
		if !ok {
			continue
		}
		all++
		for _, a := range list {
			checkPolygonHas(t, p, a, true)
		}
		for _, a := range p {
			if !slices.Contains(list, a) {
				t.Errorf("the corner %v of the hull of %v is none of them", a, list)
			}
		}
		got, ok := impl.PolygonOf(reversedFan(list))
		checkFan(t, "PolygonOf", reversedFan(list), nil, got, ok, p, true)
	}
	atLeast(t, all, 2000)
}

func TestPromise61(t *testing.T) {
	all := 0
	for _, p := range polygonsAndNone() {
		if len(p) == 0 {
			continue
		}
		for _, a := range nearEdges(p) {
			if len(p) < 60 && impl.PolygonHas(p, a) {
				all++
				list := append(slices.Clone(p), a)
				got, ok := impl.PolygonOf(list)
				checkFan(t, "PolygonOf", list, nil, got, ok, polygonTidy(t, p), true)
			}
		}
	}
	atLeast(t, all, 10000)
}

func TestPromise62(t *testing.T) {
	all := 0
	for _, p := range polygonsAndNone() {
		n, ok := impl.PolygonArea(p)
		if !ok {
			continue
		}
		all++
		checkEqual(t, "PolygonArea", p, n, 2*polygonInner(t, p)+polygonEdge(t, p)-2)
		if n <= 0 {
			t.Errorf("PolygonArea(%v) returned %d", p, n)
		}
	}
	atLeast(t, all, 500)
}

func TestPromise63(t *testing.T) {
	all := 0
	for _, p := range polygonsAndNone() {
		n, ok := impl.PolygonEdge(p)
		if !ok {
			continue
		}
		all++
		if n < len(p) {
			t.Errorf("PolygonEdge(%v) returned %d", p, n)
		}
		count, ok := impl.PolygonCount(p)
		checkOfPolygon(t, "PolygonCount", p, nil, count, ok, n+polygonInner(t, p), true)
	}
	atLeast(t, all, 500)
}

func TestPromise64(t *testing.T) {
	all := 0
	for _, p := range polygonsAndNone() {
		if _, ok := impl.PolygonInner(p); !ok {
			continue
		}
		if double, ok := impl.PolygonTimes(p, 2); ok {
			all++
			checkEqual(t, "the inner vectors of the double", p, polygonInner(t, double), 2*polygonArea(t, p)-polygonEdge(t, p)+1)
		}
	}
	atLeast(t, all, 300)
}

func TestPromise65(t *testing.T) {
	all := 0
	for _, p := range polygonsAndNone() {
		if _, ok := impl.PolygonCount(p); !ok {
			continue
		}
		if triple, ok := impl.PolygonTimes(p, 3); ok {
			all++
			n, ok := impl.PolygonCount(triple)
			twice := 9*polygonArea(t, p) + 3*polygonEdge(t, p)
			checkOfPolygon(t, "PolygonCount", triple, nil, n, ok, twice/2+1, true)
			checkEqual(t, "twice what is halved", p, twice%2, 0)
		}
	}
	atLeast(t, all, 300)
}

func TestPromise66(t *testing.T) {
	all := 0
	eachPair(func(p, q Polygon) {
		sum, ok := impl.PolygonSum(p, q)
		other, fine := impl.PolygonSum(q, p)
		checkFan(t, "PolygonSum", q, p, other, fine, sum, ok)
		if ok {
			all++
			checkPolygonHas(t, sum, Vec{X: p[0].X + q[0].X, Y: p[0].Y + q[0].Y}, true)
		}
	})
	atLeast(t, all, 5000)
}

func TestPromise67(t *testing.T) {
	all := 0
	for _, p := range polygonsAndNone() {
		for n := range 22 {
			multiple, ok := impl.PolygonTimes(p, n)
			if !ok {
				continue
			}
			all++
			checkEqual(t, "the area of a multiple", p, polygonArea(t, multiple), n*n*polygonArea(t, p))
			if n == 2 {
				sum, ok := impl.PolygonSum(p, p)
				checkFan(t, "PolygonSum", p, p, sum, ok, multiple, true)
			}
		}
	}
	atLeast(t, all, 3000)
}

func TestPromise68(t *testing.T) {
	all := 0
	for _, p := range polygonsAndNone() {
		for _, a := range append(fan(1, 0, 0, 1, -5, 7, 100, 0, -90, 95, -200, 1, 1000, 0), p[:min(len(p), 3)]...) {
			q, ok := impl.PolygonShift(p, a)
			if !ok {
				continue
			}
			all++
			checkEqual(t, "the area of a shifted one", p, polygonArea(t, q), polygonArea(t, p))
			checkEqual(t, "the edge vectors of a shifted one", p, polygonEdge(t, q), polygonEdge(t, p))
			checkSame(t, p, q, true)
		}
	}
	atLeast(t, all, 2000)
}

func TestPromise69(t *testing.T) {
	straight, over := 0, 0
	mats := goodMats()
	for i, p := range polygonsAndNone() {
		for k := i % 3; k < len(mats); k += 3 {
			q, ok := impl.PolygonMove(p, mats[k])
			if !ok {
				continue
			}
			if det(mats[k]) == 1 {
				straight++
			} else {
				over++
			}
			checkEqual(t, "the area of a moved one", p, polygonArea(t, q), polygonArea(t, p))
			checkEqual(t, "the edge vectors of a moved one", p, polygonEdge(t, q), polygonEdge(t, p))
			checkEqual(t, "the inner vectors of a moved one", p, polygonInner(t, q), polygonInner(t, p))
			checkSame(t, p, q, true)
			checkSame(t, q, turnedTo(p, k%len(p)), true)
		}
	}
	atLeast(t, straight, 4000)
	atLeast(t, over, 4000)
}

func TestPromise70(t *testing.T) {
	all, itself := 0, 0
	eachPair(func(p, q Polygon) {
		n, ok := impl.PolygonMixed(p, q)
		other, fine := impl.PolygonMixed(q, p)
		checkOfPolygon(t, "PolygonMixed", q, p, other, fine, n, ok)
		if ok {
			all++
			if n*n < polygonArea(t, p)*polygonArea(t, q) {
				t.Errorf("PolygonMixed(%v, %v) returned %d", p, q, n)
			}
		}
		if ok && slices.Equal(p, q) {
			itself++
			checkEqual(t, "PolygonMixed", p, n, polygonArea(t, p))
		}
	})
	atLeast(t, all, 5000)
	atLeast(t, itself, 300)
}

func TestPromise71(t *testing.T) {
	all, doubled := 0, 0
	for _, p := range polygonsAndNone() {
		rays, ok := impl.PolygonNormals(p)
		if !ok {
			continue
		}
		all++
		checkEqual(t, "the number of rays", p, len(rays), len(p))
		if !impl.FanIn(rays) || !slices.Equal(fanTidy(t, rays), rays) {
			t.Errorf("PolygonNormals(%v) returned %v", p, rays)
		}
		if double, ok := impl.PolygonTimes(p, 2); ok {
			doubled++
			got, ok := impl.PolygonNormals(double)
			checkFan(t, "PolygonNormals", double, nil, got, ok, rays, true)
		}
	}
	atLeast(t, all, 500)
	atLeast(t, doubled, 300)
}

func TestPromise72(t *testing.T) {
	all := 0
	eachPair(func(p, q Polygon) {
		same := impl.PolygonSame(p, q)
		checkSame(t, q, p, same)
		if same {
			all++
			checkEqual(t, "the area of the same one", p, polygonArea(t, q), polygonArea(t, p))
			checkEqual(t, "the edge vectors of the same one", p, polygonEdge(t, q), polygonEdge(t, p))
		}
	})
	atLeast(t, all, 1000)
}
