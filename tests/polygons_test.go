package tests

import (
	"math"
	"slices"
	"testing"

	"loop.example/toricfans/impl"
)

func TestPolygonValues(t *testing.T) {
	if impl.CornersMax != 30 {
		t.Errorf("CornersMax is %d", impl.CornersMax)
	}
	for _, p := range goodPolygons() {
		if !isPolygon(p) {
			t.Errorf("%v is listed as a polygon", p)
		}
	}
	for _, p := range badPolygons() {
		if isPolygon(p) {
			t.Errorf("%v is listed as none", p)
		}
	}
	for _, p := range stars() {
		if len(p) > 30 || !bendsEverywhere(p) || rounds(waysOf(p)) < 2 {
			t.Errorf("%v does not lead round more than once", p)
		}
	}
	for _, p := range bentWrongly() {
		if len(p) < 3 || slices.ContainsFunc(p, func(a Vec) bool { return !inCorner(a) }) || bendsEverywhere(p) {
			t.Errorf("%v bends the right way everywhere", p)
		}
	}
	for corners := 3; corners <= 60; corners++ {
		if p := roundPolygon(6, corners); len(p) != corners || !bendsEverywhere(p) || rounds(waysOf(p)) != 1 || sizeOf(p) > 100 {
			t.Errorf("the round polygon with %d corners is %v", corners, p)
		}
	}
	for _, p := range emptyPolygons() {
		if inner, _ := vectorsOf(p); len(inner) > 0 {
			t.Errorf("%v has inner vectors", p)
		}
	}
	atLeast(t, len(goodPolygons()), 500)
}

func TestPolygonIn(t *testing.T) {
	for _, p := range polygonsAndNone() {
		if got := impl.PolygonIn(p); got != isPolygon(p) {
			t.Errorf("PolygonIn(%v) returned %v", p, got)
		}
	}
}

// TestPolygonInOfAllLists goes through all lists of few small vectors, in every order: turned over, with corners twice, on the way, and leading back.
func TestPolygonInOfAllLists(t *testing.T) {
	vectors := fan(0, 0, 1, 0, 2, 0, 0, 1, 1, 1, 2, 1, 0, 2, 1, 2)
	times := 0
	var extend func(p Polygon)
	extend = func(p Polygon) {
		due := isPolygon(p)
		if due {
			times++
		}
		if impl.PolygonIn(p) != due {
			t.Errorf("PolygonIn(%v) returned %v", p, !due)
		}
		for _, a := range vectors {
			if len(p) < 5 {
				extend(append(slices.Clone(p), a))
			}
		}
	}
	extend(nil)
	atLeast(t, times, 300)
}

// TestPolygonInAtTheLimit puts every number near the limit, or far beyond it, at every place.
func TestPolygonInAtTheLimit(t *testing.T) {
	within, beyond := 0, 0
	for _, n := range append(edgeNumbers(), 99, 100, 101, -99, -100, -101, 102, -102) {
		for _, p := range []Polygon{fan(-50, -60, 70, -50, -40, 50), squareOf(90), roundPolygon(4, 7)} {
			for i := range p {
				for _, a := range []Vec{{X: n, Y: p[i].Y}, {X: p[i].X, Y: n}, {X: n, Y: n}} {
					q := withRay(p, i, a)
					due := isPolygon(q)
					if got := impl.PolygonIn(q); got != due {
						t.Errorf("PolygonIn(%v) returned %v", q, got)
					}
					if due && sizeOf(q) == 100 {
						within++
					}
					if !due && bendsEverywhere(q) && sizeOf(q) == 101 {
						beyond++
					}
				}
			}
		}
	}
	atLeast(t, within, 20)
	atLeast(t, beyond, 20)
}

func TestPolygonTidy(t *testing.T) {
	changed, double := 0, 0
	for _, p := range polygonsAndNone() {
		valid := isPolygon(p)
		if !valid || len(p) > 12 {
			got, ok := impl.PolygonTidy(p)
			checkFan(t, "PolygonTidy", p, nil, got, ok, tidyOfAny(p), valid)
			continue
		}
		for _, q := range allTurns(p) {
			got, ok := impl.PolygonTidy(q)
			due := tidyOf(q)
			checkFan(t, "PolygonTidy", q, nil, got, ok, due, true)
			if !slices.Equal(q, due) {
				changed++
			}
			if due[len(due)-1].X == due[0].X {
				double++
			}
		}
	}
	atLeast(t, changed, 1500)
	atLeast(t, double, 300)
}

// tidyOfAny allows for lists without corners.
func tidyOfAny(p Polygon) Polygon {
	if len(p) == 0 {
		return nil
	}
	return tidyOf(p)
}

// checkPolygonOf holds the hull of a list against that which is found by going round.
func checkPolygonOf(t *testing.T, list []Vec) bool {
	t.Helper()
	valid := len(list) <= 60 && areVecs(list)
	var due Polygon
	if valid {
		due = hullOf(list)
		valid = isPolygon(due)
	}
	got, ok := impl.PolygonOf(list)
	checkFan(t, "PolygonOf", list, nil, got, ok, due, valid)
	return valid
}

func TestPolygonOf(t *testing.T) {
	for _, p := range polygonsAndNone() {
		checkPolygonOf(t, p)
		checkPolygonOf(t, reversedFan(p))
		checkPolygonOf(t, append(slices.Clone(p), p...))
		checkPolygonOf(t, slices.Concat(reversedFan(p), p, p))
		if len(p) > 0 {
			checkPolygonOf(t, mixed(append(slices.Clone(p), p[0], p[len(p)-1]), 7))
			checkPolygonOf(t, append(slices.Clone(p), Vec{X: 101, Y: 3}))
			checkPolygonOf(t, append(slices.Clone(p), Vec{X: 1, Y: -1001}))
		}
	}
}

// TestPolygonOfAllSets takes all sets of small vectors, in different orders and with some of them twice.
func TestPolygonOfAllSets(t *testing.T) {
	valid, none := 0, 0
	var s series
	for set := range 1 << 12 {
		var list []Vec
		for i := range 12 {
			if set>>i&1 == 1 {
				list = slices.Insert(list, s.next(len(list)+1), Vec{X: i%4 - 2, Y: i/4 + 5})
			}
		}
		if len(list) > 0 {
			list = slices.Insert(list, s.next(len(list)), list[s.next(len(list))])
		}
		if checkPolygonOf(t, list) {
			valid++
		} else {
			none++
		}
	}
	atLeast(t, valid, 3000)
	atLeast(t, none, 100)
}

func TestPolygonOfAnyVectors(t *testing.T) {
	valid, more, beyond := 0, 0, 0
	var s series
	for i := range 6000 {
		size := []int{1, 2, 3, 5, 10, 30, 100, 101, 110, 1000, 1001}[i%11]
		list := s.vecs(s.next(64), size)
		if checkPolygonOf(t, list) {
			valid++
		} else if len(list) > 60 {
			more++
		} else if areVecs(list) && sizeOf(list) > 100 {
			beyond++
		}
	}
	atLeast(t, valid, 3000)
	atLeast(t, more, 200)
	atLeast(t, beyond, 500)
}

// TestPolygonOfManyVectors has lists with as many vectors as there may be, and with more, whatever their hull is.
func TestPolygonOfManyVectors(t *testing.T) {
	triangle := fan(0, 0, 9, 0, 0, 9)
	inner, _ := vectorsOf(squareOf(5))
	for _, n := range []int{10, 30, 59, 60, 61, 62, 81} {
		for _, list := range [][]Vec{
			slices.Repeat(triangle, 27)[:n], slices.Repeat(squareOf(100), 21)[:n], inner[:n],
			append(slices.Repeat(fan(0, 0), n-3), triangle...), append(slices.Repeat(fan(1, 1), n-3), triangle...), append(slices.Clone(triangle), slices.Repeat(fan(4, 5), n-3)...),
		} {
			if len(list) != n || checkPolygonOf(t, list) != (n <= 60) {
				t.Errorf("the hull of %d vectors is not as told", n)
			}
		}
	}
}

// TestPolygonOfManyCorners has hulls with as many corners as there may be, and with more.
func TestPolygonOfManyCorners(t *testing.T) {
	for _, corners := range []int{3, 4, 29, 30, 31, 32, 45, 59, 60, 61} {
		p := roundPolygon(6, corners)
		for step := range 5 {
			list := turnedTo(p, step*step%corners)
			if step%2 == 1 {
				list = reversedFan(list)
			}
			if checkPolygonOf(t, list) != (corners <= 30) {
				t.Errorf("the hull of %d corners is not as told", corners)
			}
			if corners < 60 && checkPolygonOf(t, append(list, Vec{})) != (corners <= 30) {
				t.Errorf("the hull of %d corners and 0 is not as told", corners)
			}
		}
	}
}

func TestPolygonOfSome(t *testing.T) {
	cases := []struct {
		list []Vec
		due  Polygon
	}{
		{fan(0, 0, 2, 0, 1, 1, 0, 2), fan(0, 0, 2, 0, 0, 2)},
		{fan(0, 2, 1, 1, 2, 0, 0, 0), fan(0, 0, 2, 0, 0, 2)},
		{fan(1, 0, 0, 1, 0, 0), fan(0, 0, 1, 0, 0, 1)},
		{fan(1, 0, 0, 0, 0, 1, 1, 0, 0, 0), fan(0, 0, 1, 0, 0, 1)},
		{fan(3, 3, 3, 1, 1, 3, 1, 1, 2, 2, 2, 1, 1, 2, 3, 2, 2, 3), fan(1, 1, 3, 1, 3, 3, 1, 3)},
		{fan(-1, 5, -1, 4, -1, 6, 0, 0, -1, 5), fan(-1, 4, 0, 0, -1, 6)},
		{fan(5, 1, 5, 9, 5, 4, 0, 7, 5, 1), fan(0, 7, 5, 1, 5, 9)},
		{fan(100, 100, -100, 100, 100, -100, -100, -100, 0, 0), squareOf(100)},
		{fan(0, 0, 100, 99, 99, 98), fan(0, 0, 99, 98, 100, 99)},
		{fan(7, 7), nil},
		{fan(7, 7, 8, 8), nil},
		{fan(7, 7, 7, 7, 7, 7, 7, 7), nil},
		{fan(0, 0, 1, 1, 2, 2, 5, 5), nil},
		{fan(0, 0, 0, 1, 0, 7, 0, -100), nil},
		{fan(3, 1, 5, 1, 4, 1), nil},
		{fan(0, 2, 2, 0, 1, 1, 0, 2, -98, 100), nil},
		{slices.Repeat(fan(1, 2, 3, 4), 30), nil},
		{slices.Repeat(fan(1, 2), 60), nil},
		{nil, nil},
		{fan(0, 0, 101, 0, 0, 1), nil},
		{fan(0, 0, 1, 0, 0, -101), nil},
		{fan(0, 0, 1, 0, 0, 1, 1000, 1000), nil},
		{fan(0, 0, 1, 0, 0, 1, -1000, 0), nil},
		{squareOf(1000), nil},
		{fan(500, 500, 501, 500, 500, 501), nil},
		{fan(0, 0, 1, 0, 0, 1, 1001, 0), nil},
		{fan(0, 0, 1, 0, 0, 1, math.MinInt, math.MaxInt), nil},
		{fan(math.MinInt, 0, 1, 0, 0, 1), nil},
		{fan(math.MaxInt, math.MaxInt, math.MinInt, math.MinInt, math.MinInt, math.MaxInt), nil},
	}
	for _, c := range cases {
		got, ok := impl.PolygonOf(c.list)
		checkFan(t, "PolygonOf", c.list, nil, got, ok, c.due, c.due != nil)
	}
}

func checkPolygonHas(t *testing.T, p Polygon, a Vec, due bool) {
	t.Helper()
	if got := impl.PolygonHas(p, a); got != due {
		t.Errorf("PolygonHas(%v, %v) returned %v", p, a, got)
	}
}

// TestPolygonHas takes all vectors of a square around each small polygon, and those near the edges of each great one.
func TestPolygonHas(t *testing.T) {
	var found [3]int
	for _, p := range goodPolygons() {
		var list []Vec
		box := boxOf(p)
		if (box[1]-box[0])*(box[3]-box[2]) <= 500 {
			for x := box[0] - 2; x <= box[1]+2; x++ {
				for y := box[2] - 2; y <= box[3]+2; y++ {
					list = append(list, Vec{X: x, Y: y})
				}
			}
		}
		for _, a := range append(list, nearEdges(p)...) {
			on := isOn(p, a)
			found[on+1]++
			checkPolygonHas(t, p, a, on >= 0)
		}
	}
	for _, times := range found {
		atLeast(t, times, 5000)
	}
}

// nearEdges has the vectors around each corner, around the middle of each edge, and the next ones on the line of each edge, within it and beyond it.
func nearEdges(p Polygon) []Vec {
	var list []Vec
	for i, a := range p {
		b := nextOf(p, i)
		way := wayOf(a, b)
		n := max(1, commonDivisor(way.X, way.Y))
		step := Vec{X: way.X / n, Y: way.Y / n}
		for k := -2; k <= 2; k++ {
			list = append(list, Vec{X: a.X + k*step.X, Y: a.Y + k*step.Y}, Vec{X: b.X + k*step.X, Y: b.Y + k*step.Y})
		}
		for x := -1; x <= 1; x++ {
			for y := -1; y <= 1; y++ {
				list = append(list, Vec{X: a.X + x, Y: a.Y + y}, Vec{X: (a.X+b.X)/2 + x, Y: (a.Y+b.Y)/2 + y})
			}
		}
	}
	return append(list, fan(1000, 1000, -1000, -1000, 1000, -1000, -1000, 1000, 0, 1000, 1000, 0, -1000, 0, 0, -1000, 0, 0)...)
}

func TestPolygonHasOfSome(t *testing.T) {
	p := fan(0, 0, 4, 2, 0, 4)
	for _, a := range fan(1, 2, 2, 2, 3, 2, 1, 1, 0, 2, 2, 1, 2, 3, 0, 0, 4, 2, 0, 4, 0, 1) {
		checkPolygonHas(t, p, a, true)
		checkPolygonHas(t, turnedTo(p, 1), a, true)
		checkPolygonHas(t, reversedFan(p), a, false)
	}
	for _, a := range fan(0, 5, 0, -1, 6, 3, -2, -1, 6, 1, -2, 5, 1, 0, 3, 1, 5, 2, -1, 2, 3, 3, 4, 3, 4, 1, 1000, 2, -1000, 2) {
		checkPolygonHas(t, p, a, false)
	}
}

func TestPolygonHasOfNone(t *testing.T) {
	for _, p := range badPolygons() {
		for _, a := range append(fan(0, 0, 1, 1, 0, 1, 1000, 1000), badVecs()...) {
			checkPolygonHas(t, p, a, false)
		}
		if len(p) > 0 {
			checkPolygonHas(t, p, p[0], false)
		}
	}
	for i, a := range anyVecs() {
		if isVec(a) {
			continue
		}
		for k, p := range goodPolygons() {
			if k%19 == i%19 {
				checkPolygonHas(t, p, a, false)
			}
		}
		checkPolygonHas(t, squareOf(100), a, false)
	}
}
