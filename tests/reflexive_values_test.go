package tests

import "slices"

// reflexiveKind is a reflexive polygon of one of the 16 kinds, with how many edge vectors it has, and the index of the kind of its dual.
type reflexiveKind struct {
	p    Polygon
	edge int
	dual int
}

// reflexiveKinds has one polygon of each kind, in the order of the edge vectors. At the indexes 12, 14 and 15 all edges have vectors between both corners.
func reflexiveKinds() []reflexiveKind {
	return []reflexiveKind{
		{fan(-1, -1, 1, 0, 0, 1), 3, 15},
		{fan(-1, 0, 1, -1, 1, 1), 4, 12},
		{fan(-1, 0, 0, -1, 1, 0, 1, 1), 4, 13},
		{fan(-1, 0, 0, -1, 1, 0, 0, 1), 4, 14},
		{fan(-1, 1, 0, -1, 1, 0, 1, 1), 5, 10},
		{fan(-1, 0, 0, -1, 1, 0, 1, 1, 0, 1), 5, 11},
		{fan(-1, 1, 0, -1, 2, 1), 6, 6},
		{fan(-1, -1, 1, 0, 1, 1, -1, 1), 6, 7},
		{fan(-1, 0, 0, -1, 1, 0, 1, 1, -1, 1), 6, 8},
		{fan(-1, -1, 0, -1, 1, 0, 1, 1, 0, 1, -1, 0), 6, 9},
		{fan(-1, 0, 0, -1, 2, 1, -1, 1), 7, 4},
		{fan(-1, -1, 0, -1, 1, 0, 1, 1, -1, 1), 7, 5},
		{fan(-2, 1, 0, -1, 2, 1), 8, 1},
		{fan(-1, -1, 0, -1, 2, 1, -1, 1), 8, 2},
		{squareOf(1), 8, 3},
		{fan(-1, -2, 2, 1, -1, 1), 9, 0},
	}
}

// dualCorner returns the vector whose products with two others are -1, as quotients of determinants, and whether its numbers are whole.
func dualCorner(a, b Vec) (Vec, bool) {
	n := vecDetOf(a, b)
	x, y := a.Y-b.Y, b.X-a.X
	if n == 0 || x%n != 0 || y%n != 0 {
		return Vec{}, false
	}
	return Vec{X: x / n, Y: y / n}, true
}

// dualCornersOf returns the corner of the dual for each corner and the next one, and whether there is a whole one for all of them.
func dualCornersOf(p Polygon) ([]Vec, bool) {
	var list []Vec
	for i, a := range p {
		m, ok := dualCorner(a, nextOf(p, i))
		if !ok {
			return nil, false
		}
		list = append(list, m)
	}
	return list, true
}

// isReflexive asks whether all corners of the dual are whole, while the document asks for common divisors.
func isReflexive(p Polygon) bool {
	_, ok := dualCornersOf(p)
	return ok && isPolygon(p) && isOn(p, Vec{}) == 1
}

// dualOf returns the tidy dual of a reflexive polygon, and whether it is a polygon.
func dualOf(p Polygon) (Polygon, bool) {
	if !isReflexive(p) {
		return nil, false
	}
	list, _ := dualCornersOf(p)
	list = tidyOf(list)
	return list, isPolygon(list)
}

// edgesOf returns the edge vectors, found one by one: those within the box of each edge that are on its line.
func edgesOf(p Polygon) []Vec {
	var list []Vec
	for i, a := range p {
		b := nextOf(p, i)
		box := boxOf([]Vec{a, b})
		for x := box[0]; x <= box[1]; x++ {
			for y := box[2]; y <= box[3]; y++ {
				if c := (Vec{X: x, Y: y}); c != b && sideOf(a, b, c) == 0 {
					list = append(list, c)
				}
			}
		}
	}
	return list
}

// edgeFanOf returns the edge vectors of a reflexive polygon by their angles, and whether they are a fan.
func edgeFanOf(p Polygon) (Fan, bool) {
	if !isReflexive(p) {
		return nil, false
	}
	f := sortedFan(edgesOf(p))
	return f, isFan(f)
}

// steepMats has matrices that move small polygons near the limit and beyond it, with the determinants 1 and -1.
func steepMats() []Mat {
	var list []Mat
	for _, n := range []int{3, 7, 10, 32, 33, 34, 48, 49, 50, 51, 96, 97, 98, 99, 100, 101, 110} {
		for _, k := range []int{n, -n} {
			list = append(list,
				Mat{A: 1, B: k, C: 0, D: 1}, Mat{A: 1, B: 0, C: k, D: 1}, Mat{A: -1, B: k, C: 0, D: 1}, Mat{A: 1, B: 0, C: k, D: -1},
				Mat{A: k, B: 1, C: 1, D: 0}, Mat{A: k, B: 1, C: -1, D: 0}, Mat{A: k, B: k - 1, C: 1, D: 1}, Mat{A: 1, B: 1, C: k, D: k - 1})
		}
	}
	return list
}

// movedKind is a polygon to which a matrix moves that of a kind.
type movedKind struct {
	p    Polygon
	kind int
	m    Mat
}

// movedKinds has the polygons of all kinds, moved by matrices, as far as they are within the limit; each one begins at the corner that comes next.
func movedKinds() []movedKind {
	var list []movedKind
	for kind, k := range reflexiveKinds() {
		for i, m := range append(goodMats(), steepMats()...) {
			if p, ok := changedOf(k.p, func(a Vec) Vec { return moved(m, a) }); ok {
				list = append(list, movedKind{turnedTo(p, i%len(p)), kind, m})
			}
		}
	}
	return list
}

// reflexives has the polygons of movedKinds alone.
func reflexives() []Polygon {
	var list []Polygon
	for _, k := range movedKinds() {
		list = append(list, k.p)
	}
	return list
}

// shifted returns a polygon around which 0 lies as the vector with the opposite numbers did.
func shifted(p Polygon, a Vec) Polygon {
	var q Polygon
	for _, b := range p {
		q = append(q, Vec{X: b.X + a.X, Y: b.Y + a.Y})
	}
	return q
}

// aroundZero has polygons with 0 as an inner vector that are not reflexive: some with just one other inner vector, some with one edge that is not next to 0, and great ones.
func aroundZero() []Polygon {
	list := []Polygon{
		fan(-1, -1, 2, -1, 0, 1), fan(-1, 0, 2, -1, 2, 1), fan(-1, -1, 1, -1, 0, 2), fan(-1, 0, 0, -1, 2, 0, 0, 1), fan(-1, 0, 0, -1, 1, -1, 2, 1), fan(-1, -1, 1, -1, 1, 2, -1, 1),
		fan(-1, -1, 3, -1, -1, 3), fan(-3, -3, 1, -3, 1, 1), fan(-2, -1, 1, -1, 1, 2), fan(-1, -1, 1, 0, -1, 2), fan(-100, -100, 100, 99, 99, 100), fan(-100, 1, 100, -2, 99, 1),
		fan(-2, -3, 5, 1, -1, 1), fan(-1, -2, 3, 4, -1, 0), fan(-3, -1, 3, 1, 0, 1), fan(-1, -1, 1, 0, 0, 2),
	}
	for _, k := range reflexiveKinds() {
		for n := 2; n <= 4; n++ {
			list = append(list, turnedTo(changedList(k.p, Mat{A: n, B: 0, C: 0, D: n}), n%len(k.p)))
		}
		for i := range k.p {
			list = append(list, withRay(k.p, i, Vec{X: 2 * k.p[i].X, Y: 2 * k.p[i].Y}), withRay(k.p, i, Vec{X: k.p[i].X + nextOf(k.p, i).X, Y: k.p[i].Y + nextOf(k.p, i).Y}))
		}
	}
	return slices.DeleteFunc(list, func(p Polygon) bool { return !isPolygon(p) || isOn(p, Vec{}) != 1 || isReflexive(p) })
}

// besideZero has the reflexive polygons shifted, so that 0 is on an edge, at a corner, or not theirs.
func besideZero() []Polygon {
	var list []Polygon
	for i, p := range reflexives() {
		edges := edgesOf(p)
		a := edges[i%len(edges)]
		for _, b := range []Vec{a, p[0], {X: 2 * a.X, Y: 2 * a.Y}, {X: 3}, {Y: -3}} {
			list = append(list, shifted(p, Vec{X: -b.X, Y: -b.Y}))
		}
	}
	return slices.DeleteFunc(list, func(p Polygon) bool { return !isPolygon(p) })
}

// nearlyReflexive has lists that are no polygons, but of which each two next vectors are as those of a reflexive polygon are: the edge vectors as corners, and those that lead round more than once; and lists turned over.
func nearlyReflexive() []Polygon {
	var list []Polygon
	for i, k := range movedKinds() {
		edges := edgesOf(k.p)
		if len(edges) > len(k.p) {
			list = append(list, turnedTo(sortedFan(edges), i%len(edges)))
		}
		if i%7 == 0 {
			list = append(list, slices.Repeat(k.p, 2), slices.Repeat(k.p, 5), reversedFan(k.p), turnedTo(reversedFan(k.p), 1))
		}
	}
	return append(list, fan(-1, -1, 101, 0, 0, 1), fan(101, -1, 0, 1, -101, 0), squareOf(101), fan(-1, -1, 1, 0, 1000, 1), fan(1, 0, 0, 1), fan(1, 0, -1, 0))
}

// reflexivesAndOthers has reflexive polygons, other polygons, and lists that are none.
func reflexivesAndOthers() []Polygon {
	return slices.Concat(reflexives(), aroundZero(), besideZero(), nearlyReflexive(), polygonsAndNone())
}

// convexFans has the fans of the edge vectors of all kinds, moved by matrices, some of them beyond the limit of polygons, from different rays on.
func convexFans() []Fan {
	mats := append(goodMats(), steepMats()...)
	for _, n := range []int{200, -249, 331, 332, 499, 500, 997, -998, 999, -1000} {
		mats = append(mats, Mat{A: 1, B: n, C: 0, D: 1}, Mat{A: 1, B: 0, C: n, D: -1}, Mat{A: n, B: 1, C: -1, D: 0})
	}
	var list []Fan
	for _, k := range reflexiveKinds() {
		for i, m := range mats {
			if f, ok := movedFan(sortedFan(edgesOf(k.p)), m); ok {
				list = append(list, turnedTo(f, i%len(f)))
			}
		}
	}
	return list
}

// isConvex asks whether all rays are on the edges of their hull, whose numbers may be beyond the limit of polygons.
func isConvex(f Fan) bool {
	if !isSmooth(f) {
		return false
	}
	p := hullOf(f)
	return !slices.ContainsFunc(f, func(a Vec) bool { return isOn(p, a) != 0 })
}

// anticanonicalOf returns the hull of the sections of the divisor with 1 everywhere, found without a box, and whether it is told and a polygon.
func anticanonicalOf(f Fan) (Polygon, bool) {
	if !isSmooth(f) || !limitsOf(f, filled(len(f), 1)).areTold() {
		return nil, false
	}
	sections := sectionsOf(f, filled(len(f), 1))
	if len(sections) > 60 {
		return nil, false
	}
	p := hullOf(sections)
	return p, isPolygon(p)
}

// blownFans has smooth fans that are made of those of all kinds by one blowup or by two, so that some have the number -3 or one that is less.
func blownFans() []Fan {
	var list []Fan
	for _, k := range reflexiveKinds() {
		f := sortedFan(edgesOf(k.p))
		for i := range f {
			g := blownUp(f, i)
			list = append(list, turnedTo(g, i*i%len(g)))
			for n := range g {
				if n%3 == i%3 {
					list = append(list, turnedTo(blownUp(g, n), n))
				}
			}
		}
	}
	return list
}

// surfaces has the fans with four rays and the numbers 0, k, 0 and -k for many k, from each ray on, also turned over.
func surfaces() []Fan {
	var list []Fan
	for _, k := range []int{0, 1, 2, 3, 4, 10, 40, 53, 54, 55, 56, 98, 99, 100, 101, 499, 998, 999, 1000} {
		for i := range 4 {
			list = append(list, turnedTo(kindFan(k), i), turnedTo(kindFan(-k), i))
		}
	}
	return list
}

// fansAround has smooth fans of all kinds, fans that are not smooth, and lists that are no fans.
func fansAround() []Fan {
	return slices.Concat(convexFans(), blownFans(), surfaces(), fansAndNone(), unsmoothLists())
}
