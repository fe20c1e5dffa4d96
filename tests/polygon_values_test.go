package tests

import (
	"math"
	"slices"
)

type Polygon = []Vec

// wayOf returns the way from a vector to another one.
func wayOf(a, b Vec) Vec {
	return Vec{X: b.X - a.X, Y: b.Y - a.Y}
}

// waysOf returns the way from each corner to the next one.
func waysOf(p Polygon) []Vec {
	var ways []Vec
	for i, a := range p {
		ways = append(ways, wayOf(a, nextOf(p, i)))
	}
	return ways
}

// sideOf returns a number greater than 0 if a vector is on that side of the way between two others on which polygons lie.
func sideOf(a, b, c Vec) int {
	return vecDetOf(wayOf(a, b), wayOf(a, c))
}

func inCorner(a Vec) bool {
	return a.X >= -100 && a.X <= 100 && a.Y >= -100 && a.Y <= 100
}

// isPolygon asks whether all other corners are on the same side of the way between each two next ones, while the document asks how the way bends at each corner.
func isPolygon(p Polygon) bool {
	if len(p) < 3 || len(p) > 30 || slices.ContainsFunc(p, func(a Vec) bool { return !inCorner(a) }) {
		return false
	}
	for i, a := range p {
		for k, c := range p {
			if k != i && k != (i+1)%len(p) && sideOf(a, nextOf(p, i), c) <= 0 {
				return false
			}
		}
	}
	return true
}

// bendsEverywhere reports whether a list bends towards the side of polygons at every corner, however often it leads round.
func bendsEverywhere(p Polygon) bool {
	ways := waysOf(p)
	for i, way := range ways {
		if vecDetOf(way, nextOf(ways, i)) <= 0 {
			return false
		}
	}
	return true
}

// isLower reports whether a tidy polygon begins at the first one of two vectors rather than at the other one.
func isLower(a, b Vec) bool {
	return a.X < b.X || a.X == b.X && a.Y < b.Y
}

func tidyOf(p Polygon) Polygon {
	first := 0
	for i := range p {
		if isLower(p[i], p[first]) {
			first = i
		}
	}
	return turnedTo(p, first)
}

// nextCorner returns the vector of a list to which the hull leads from one of its corners: no other one is on the outer side of the way, nor further on it.
func nextCorner(list []Vec, a Vec) Vec {
	best := a
	for _, c := range list {
		side := sideOf(a, best, c)
		if best == a || side < 0 || side == 0 && vecProductOf(wayOf(a, c), wayOf(a, c)) > vecProductOf(wayOf(a, best), wayOf(a, best)) {
			best = c
		}
	}
	return best
}

// hullOf goes round some vectors from corner to corner; of vectors on one line it is just the ends of this.
func hullOf(list []Vec) Polygon {
	if len(list) == 0 {
		return nil
	}
	first := tidyOf(list)[0]
	p := Polygon{first}
	for a := nextCorner(list, first); a != first; a = nextCorner(list, a) {
		p = append(p, a)
	}
	return p
}

// isOn tells of a vector that it is an inner one, an edge one, or none of a polygon, by 1, 0 and -1.
func isOn(p Polygon, a Vec) int {
	on := 1
	for i, corner := range p {
		side := sideOf(corner, nextOf(p, i), a)
		if side < 0 {
			return -1
		}
		if side == 0 {
			on = 0
		}
	}
	return on
}

// boxOf returns the least and the greatest X, and the least and the greatest Y, of some vectors.
func boxOf(list []Vec) limits {
	box := limits{list[0].X, list[0].X, list[0].Y, list[0].Y}
	for _, a := range list {
		box = limits{min(box[0], a.X), max(box[1], a.X), min(box[2], a.Y), max(box[3], a.Y)}
	}
	return box
}

// vectorsOf returns the inner vectors of a polygon and the edge ones, found one by one.
func vectorsOf(p Polygon) ([]Vec, []Vec) {
	var inner, edge []Vec
	box := boxOf(p)
	for x := box[0]; x <= box[1]; x++ {
		for y := box[2]; y <= box[3]; y++ {
			a := Vec{X: x, Y: y}
			switch isOn(p, a) {
			case 1:
				inner = append(inner, a)
			case 0:
				edge = append(edge, a)
			}
		}
	}
	return inner, edge
}

// changedOf changes all corners, and puts them in order by going round them.
func changedOf(p Polygon, change func(a Vec) Vec) (Polygon, bool) {
	var list []Vec
	for _, a := range p {
		list = append(list, change(a))
	}
	list = hullOf(list)
	return list, isPolygon(list)
}

// exchanged turns a polygon over by exchanging X and Y.
func exchanged(p Polygon) Polygon {
	q, _ := changedOf(p, func(a Vec) Vec { return Vec{X: a.Y, Y: a.X} })
	return q
}

// closed goes some ways that lead back, in the order of their directions, and around 0.
func closed(ways []Vec) Polygon {
	var a Vec
	var p Polygon
	for _, way := range sortedFan(ways) {
		a = Vec{X: a.X + way.X, Y: a.Y + way.Y}
		p = append(p, a)
	}
	box := boxOf(p)
	for i := range p {
		p[i].X -= (box[0] + box[1]) / 2
		p[i].Y -= (box[2] + box[3]) / 2
	}
	return p
}

// threeWays lead back, and are not among the steps.
func threeWays() []Vec {
	return fan(1, 0, 0, 1, -1, -1)
}

// stepsOf has primitive vectors of the first half of the way round, as many as are asked for, spread over it.
func stepsOf(size int, number int) []Vec {
	var all []Vec
	for _, a := range sortedFan(primitives(size)) {
		if (a.Y > 0 || a.Y == 0 && a.X > 0) && a != (Vec{X: 1}) && a != (Vec{Y: 1}) && a != (Vec{X: 1, Y: 1}) {
			all = append(all, a)
		}
	}
	var list []Vec
	for i := range number {
		list = append(list, all[i*len(all)/number])
	}
	return list
}

// bothWays has some steps and the opposite ones.
func bothWays(steps []Vec) []Vec {
	list := slices.Clone(steps)
	for _, a := range steps {
		list = append(list, Vec{X: -a.X, Y: -a.Y})
	}
	return list
}

// roundPolygon has as many corners as are asked for, and ways with numbers up to a size.
func roundPolygon(size int, corners int) Polygon {
	if corners%2 == 0 {
		return closed(bothWays(stepsOf(size, corners/2)))
	}
	return closed(append(bothWays(stepsOf(size, corners/2-1)), threeWays()...))
}

// series gives numbers that look like chance but are always the same ones.
type series uint64

func (s *series) next(n int) int {
	*s = *s*6364136223846793005 + 1442695040888963407
	return int(uint64(*s)>>33) % n
}

// vec returns a vector with numbers up to a size.
func (s *series) vec(size int) Vec {
	return Vec{X: s.next(2*size+1) - size, Y: s.next(2*size+1) - size}
}

func (s *series) vecs(number int, size int) []Vec {
	var list []Vec
	for range number {
		list = append(list, s.vec(size))
	}
	return list
}

// gridPolygons has all polygons with corners from -1, -1 to 1, 1, beginning at different ones.
func gridPolygons() []Polygon {
	var polygons []Polygon
	for set := range 1 << 9 {
		var list []Vec
		for i := range 9 {
			if set>>i&1 == 1 {
				list = append(list, Vec{X: i%3 - 1, Y: i/3 - 1})
			}
		}
		if p := hullOf(list); len(p) == len(list) && isPolygon(p) {
			polygons = append(polygons, turnedTo(p, set/3%len(p)))
		}
	}
	return polygons
}

// anyPolygons has hulls of vectors that look like chance, small and great ones, beginning at different corners.
func anyPolygons(number int) []Polygon {
	var s series
	var polygons []Polygon
	for len(polygons) < number {
		size := []int{2, 3, 4, 6, 10, 33, 100}[len(polygons)%7]
		if p := hullOf(s.vecs(3+s.next(20), size)); isPolygon(p) {
			polygons = append(polygons, turnedTo(p, s.next(len(p))))
		}
	}
	return polygons
}

// squareOf has the numbers of a size.
func squareOf(size int) Polygon {
	return fan(-size, -size, size, -size, size, size, -size, size)
}

// greatPolygons has polygons with numbers of 100 and -100, wide ones and narrow ones, some without inner vectors.
func greatPolygons() []Polygon {
	return []Polygon{
		squareOf(100), fan(-100, -100, 100, -100, -100, 100), fan(100, 100, -100, 100, 100, -100), fan(-100, 0, 0, -100, 100, 0, 0, 100),
		fan(-100, -100, 100, 99, 99, 100), fan(-100, -100, 99, 98, 100, 99), fan(-100, 100, 99, -99, 100, -99), fan(-100, -1, 100, 0, 100, 1, -100, 0),
		fan(-100, 0, 100, 0, 100, 1, -100, 1), fan(-1, -100, 0, -100, 0, 100, -1, 100), fan(99, -100, 100, -100, 100, -99), fan(-100, 99, -99, 100, -100, 100),
		fan(-100, -100, 0, -1, 100, 100, 0, 1), fan(100, -100, 100, 100, 99, 0), fan(-100, -100, 100, -100, 1, 100, 0, 100), fan(-100, 7, 100, 8, -100, 8),
		{{X: 0, Y: -100}, {X: 100, Y: 100}, {X: -100, Y: 100}}, fan(-100, -3, 98, -100, 100, 100, 0, 100, -99, 99),
	}
}

// roundPolygons has polygons with all numbers of corners that they may have.
func roundPolygons() []Polygon {
	var list []Polygon
	for corners := 3; corners <= 30; corners++ {
		p := roundPolygon(4, corners)
		list = append(list, turnedTo(p, corners*5%corners), turnedTo(p, corners*7/3%corners))
	}
	return append(list, roundPolygon(12, 30), turnedTo(roundPolygon(11, 29), 17), roundPolygon(17, 18))
}

// emptyPolygons has polygons without inner vectors.
func emptyPolygons() []Polygon {
	list := []Polygon{
		fan(0, 0, 2, 0, 0, 2), fan(2, 0, 0, 2, 0, 0), fan(0, 0, 1, 0, 0, 1), fan(5, 5, 6, 5, 6, 6, 5, 6), fan(0, 0, 1, 1, 1, 2, 0, 1),
		fan(-100, -100, 99, 98, 100, 99), fan(-100, 0, 100, 0, 100, 1, -100, 1), fan(0, 0, 7, 0, 3, 1, 0, 1), fan(0, 0, 34, 21, 89, 55),
	}
	for _, m := range []Mat{{A: 1, B: 13, C: 0, D: 1}, {A: 34, B: 21, C: 21, D: 13}, {A: 0, B: 1, C: 1, D: 9}} {
		for _, p := range list[:5] {
			if q, ok := changedOf(p, func(a Vec) Vec { return moved(m, a) }); ok {
				list = append(list, q)
			}
		}
	}
	return list
}

// moved returns where a matrix leads, whether it is a vector or not.
func moved(m Mat, a Vec) Vec {
	return Vec{X: m.A*a.X + m.B*a.Y, Y: m.C*a.X + m.D*a.Y}
}

// doublePolygons has polygons two of whose corners have the least X, from each corner on.
func doublePolygons() []Polygon {
	return slices.Concat(allTurns(squareOf(1)), allTurns(fan(-3, 2, -3, -7, 5, 0)), allTurns(fan(-3, 2, -3, 1, 0, 0, 0, 5)), allTurns(squareOf(100)))
}

// goodPolygons has polygons of all kinds.
func goodPolygons() []Polygon {
	return slices.Concat(gridPolygons(), anyPolygons(280), greatPolygons(), roundPolygons(), emptyPolygons(), doublePolygons())
}

// stars has lists that bend the right way at every corner, but lead round more than once.
func stars() []Polygon {
	list := []Polygon{
		slices.Repeat(fan(0, 0, 1, 0, 0, 1), 2), slices.Repeat(squareOf(100), 2), slices.Repeat(squareOf(3), 7), slices.Repeat(roundPolygon(4, 15), 2),
		fan(0, 0, 10, 0, 10, 10, 0, 10, 1, 2, 8, 2, 8, 8, 2, 8), fan(0, 0, 10, 0, 4, 8, 1, 2, 8, 1, 9, 10, 0, 9),
		fan(0, 0, 10, 0, 10, 10, 0, 10, 0, 0, 9, 1, 9, 9, 1, 9),
	}
	for _, corners := range []int{5, 7, 9, 15, 29} {
		for step := 2; 2*step < corners; step++ {
			list = append(list, mixed(roundPolygon(4, corners), step))
		}
	}
	return list
}

// bentWrongly has lists that fail to bend the right way at some corner.
func bentWrongly() []Polygon {
	list := []Polygon{
		fan(0, 0, 1, 0, 2, 0, 0, 2), fan(0, 0, 2, 0, 1, 1, 0, 2), fan(0, 0, 2, 0, 0, 2, 0, 1), fan(1, 0, 2, 0, 0, 2, 0, 0), fan(0, 0, 100, 50, 50, 100, 0, 50, 0, 40),
		fan(0, 0, 0, 0, 1, 0, 0, 1), fan(0, 0, 1, 0, 1, 0, 0, 1), fan(0, 0, 1, 0, 0, 1, 0, 0), fan(0, 0, 1, 0, 0, 1, 0, 1), fan(0, 0, 2, 0, 1, 1, 2, 0, 0, 2),
		fan(0, 0, 1, 0, 0, 1, 1, 0), fan(0, 0, 1, 0, 0, 0, 0, 1), fan(0, 0, 1, 0, 0, 0, 1, 0), fan(0, 0, 2, 0, 2, 2, 1, 1, 2, 2, 0, 2), fan(0, 0, 2, 0, 1, 0, 0, 2),
		fan(0, 0, 1, 0, 2, 0), fan(0, 0, 2, 0, 1, 0), fan(0, 0, 1, 1, 2, 2, 3, 3), fan(0, 3, 0, 1, 0, 2), fan(2, 0, 1, 0, 0, 0, -1, 0), fan(-100, 100, 0, 0, 100, -100),
		fan(5, 5, 5, 5, 5, 5), slices.Repeat(fan(0, 0), 30), fan(0, 0, 4, 0, 0, 4, 1, 1), fan(0, 0, 2, 1, 4, 0, 4, 4, 0, 4), fan(0, 0, 4, 0, 1, 1, 0, 4),
		fan(0, 0, 2, 2, 2, 0, 0, 2), fan(0, 0, 2, 0, 0, 2, 2, 2), fan(0, 0, 9, 0, 9, 9, 4, 3, 0, 9), fan(0, 0, 0, 1, 1, 0), fan(0, 0, 1, 0, 0, -1), fan(0, 0, 3, 0, 3, 3, 0, 3, 2, 2),
	}
	for i, p := range slices.Concat(gridPolygons(), greatPolygons(), roundPolygons(), doublePolygons()) {
		list = append(list, reversedFan(p), turnedTo(reversedFan(p), 1))
		k := i % len(p)
		list = append(list, slices.Insert(slices.Clone(p), k, p[k]), slices.Insert(slices.Clone(p), k, nextOf(p, k)))
		if way := wayOf(p[k], nextOf(p, k)); commonDivisor(way.X, way.Y)%2 == 0 {
			list = append(list, slices.Insert(slices.Clone(p), k+1, Vec{X: p[k].X + way.X/2, Y: p[k].Y + way.Y/2}))
		}
	}
	return list
}

// tooGreat has lists each of which is none for one number alone.
func tooGreat() []Polygon {
	list := []Polygon{squareOf(101), squareOf(1000), fan(-201, 0, 0, 0, 0, 1), fan(0, 0, 1000, 999, 999, 1000)}
	for _, n := range []int{101, 102, 199, 200, 1000, 1001, 1 << 32, math.MaxInt} {
		list = append(list,
			fan(0, 0, n, 0, 0, 1), fan(0, 0, 1, 0, 0, n), fan(-n, 0, 0, 0, 0, 1), fan(0, -n, 1, 0, 0, 1), fan(0, 0, 1, 0, n, n), fan(-n, -n, 1, 0, 0, 1),
			fan(n, 0, 0, 1, 0, 0), fan(1, 0, 0, n, 0, 0), fan(0, 0, 0, 1, -n, 0), fan(1, 0, 0, 1, 0, -n))
	}
	for _, n := range []int{math.MinInt, math.MinInt + 1, wrapper, 1 << 62, -1 << 62, 1<<63 - 100} {
		list = append(list, fan(0, 0, 1, 0, 0, n), fan(n, 0, 1, 0, 0, 1), fan(0, 0, n, n, 0, 1), fan(n, n, n, n, n, n), fan(0, 0, 3, 0, 0, n), fan(0, n, 1, 0, 0, 1),
			Polygon{{X: n, Y: n}, {X: n + 1, Y: n}, {X: n, Y: n + 1}})
	}
	return append(list, fan(math.MinInt, math.MinInt, math.MaxInt, 0, 0, math.MaxInt), fan(math.MaxInt, 0, math.MinInt, 0, 0, 1))
}

// badPolygons has each kind of what is no polygon.
func badPolygons() []Polygon {
	list := []Polygon{
		nil, {}, fan(0, 0), fan(0, 0, 1, 0), fan(-100, 100, 100, -100), roundPolygon(4, 31), roundPolygon(6, 32), roundPolygon(6, 60), turnedTo(roundPolygon(4, 31), 30),
		slices.Repeat(squareOf(1), 500), slices.Repeat(fan(0, 0, 1, 0, 0, 1), 11),
	}
	return slices.Concat(list, stars(), bentWrongly(), tooGreat())
}

// polygonsAndNone has polygons and what is none.
func polygonsAndNone() []Polygon {
	return append(goodPolygons(), badPolygons()...)
}
