package tests

import (
	"slices"
)

// limits are the least and the greatest X, and the least and the greatest Y, of a box.
type limits [4]int

// boundOf takes the last cone that has a vector, while the document takes the first one: where both are not the same, the vector is a ray of both.
func boundOf(f Fan, d Divisor, w Vec) int {
	bound := 0
	for i := range f {
		c := coneOf(f, i)
		if p, q := vecDetOf(w, c.V), vecDetOf(c.U, w); p >= 0 && q >= 0 {
			bound = p*d[i] + q*d[(i+1)%len(f)]
		}
	}
	return bound
}

func limitsOf(f Fan, d Divisor) limits {
	return limits{-boundOf(f, d, Vec{X: 1}), boundOf(f, d, Vec{X: -1}), -boundOf(f, d, Vec{Y: 1}), boundOf(f, d, Vec{Y: -1})}
}

// vectors returns the number of vectors of a box.
func (l limits) vectors() int {
	if l[1] < l[0] || l[3] < l[2] {
		return 0
	}
	return (l[1] - l[0] + 1) * (l[3] - l[2] + 1)
}

// areBounds reports whether no bound is greater than the limit.
func (l limits) areBounds() bool {
	return inRange(l[0]) && inRange(l[1]) && inRange(l[2]) && inRange(l[3])
}

// areTold reports whether the sections in a box are counted.
func (l limits) areTold() bool {
	return l.areBounds() && l.vectors() <= 10000
}

// isSection takes the inequalities as they stand.
func isSection(f Fan, d Divisor, m Vec) bool {
	for i, n := range productsWith(f, m) {
		if n+d[i] < 0 {
			return false
		}
	}
	return isVec(m)
}

// floorOf returns a number over another one that is greater than 0, rounded down.
func floorOf(a, b int) int {
	n := a / b
	if n*b > a {
		n--
	}
	return n
}

// columnOf returns the least and the greatest Y of the sections with one X: each ray bounds them above, or below, or not at all.
func columnOf(f Fan, d Divisor, x int) (int, int) {
	least, most := -1000, 1000
	for i, a := range f {
		free := d[i] + a.X*x
		switch {
		case a.Y > 0:
			least = max(least, -floorOf(free, a.Y))
		case a.Y < 0:
			most = min(most, floorOf(free, -a.Y))
		case free < 0:
			return 1, 0
		}
	}
	return least, most
}

// sectionsOf asks for no box, but goes through all X that a vector may have.
func sectionsOf(f Fan, d Divisor) []Vec {
	var list []Vec
	for x := -1000; x <= 1000; x++ {
		least, most := columnOf(f, d, x)
		for y := least; y <= most; y++ {
			list = append(list, Vec{X: x, Y: y})
		}
	}
	return list
}

// onOf returns, of some sections, how many there are with the least product with each ray, and how many with none of these.
func onOf(f Fan, d Divisor, sections []Vec) ([]int, int) {
	on, inner := filled(len(f), 0), 0
	for _, m := range sections {
		isInner := true
		for i, a := range f {
			if vecProductOf(a, m) == -d[i] {
				on[i]++
				isInner = false
			}
		}
		if isInner {
			inner++
		}
	}
	return on, inner
}

// cornersOf returns the corner of each cone of a smooth fan, whether it is a vector or not.
func cornersOf(f Fan, d Divisor) []Vec {
	var list []Vec
	for i := range f {
		m := vectorOf(f, d, i)
		list = append(list, Vec{X: -m.X, Y: -m.Y})
	}
	return list
}

func areVecs(list []Vec) bool {
	return !slices.ContainsFunc(list, func(m Vec) bool { return !isVec(m) })
}

// areaOf adds the triangles between the first corner and each two next ones, which is the same as twice the area.
func areaOf(corners []Vec) int {
	sum, first := 0, corners[0]
	for i := range corners {
		a, b := corners[i], nextOf(corners, i)
		sum += vecDetOf(Vec{X: a.X - first.X, Y: a.Y - first.Y}, Vec{X: b.X - first.X, Y: b.Y - first.Y})
	}
	return sum
}
