package tests

import (
	"math"
	"slices"

	"loop.example/toricfans/impl"
)

type Cone = impl.Cone

// cone is short for a cone of four numbers.
func cone(ux, uy, vx, vy int) Cone {
	return Cone{U: Vec{X: ux, Y: uy}, V: Vec{X: vx, Y: vy}}
}

func commonDivisor(a, b int) int {
	if b == 0 {
		return max(a, -a)
	}
	return commonDivisor(b, a%b)
}

func vecDetOf(a, b Vec) int {
	return a.X*b.Y - a.Y*b.X
}

func vecProductOf(a, b Vec) int {
	return a.X*b.X + a.Y*b.Y
}

func isPrimitive(a Vec) bool {
	return isVec(a) && commonDivisor(a.X, a.Y) == 1
}

func isCone(c Cone) bool {
	return isPrimitive(c.U) && isPrimitive(c.V) && vecDetOf(c.U, c.V) > 0
}

// primitives has all primitive vectors with numbers of at most a size.
func primitives(size int) []Vec {
	var list []Vec
	for x := -size; x <= size; x++ {
		for y := -size; y <= size; y++ {
			if a := (Vec{X: x, Y: y}); isPrimitive(a) {
				list = append(list, a)
			}
		}
	}
	return list
}

// conesOf has all cones with two of some vectors as rays.
func conesOf(rays []Vec) []Cone {
	var list []Cone
	for _, u := range rays {
		for _, v := range rays {
			if c := (Cone{U: u, V: v}); isCone(c) {
				list = append(list, c)
			}
		}
	}
	return list
}

func smallCones() []Cone {
	return conesOf(primitives(4))
}

// largeCones has cones with rays near the limit: smooth ones, flat ones, narrow ones and those of the greatest indexes.
func largeCones() []Cone {
	return []Cone{
		cone(999, 998, 1000, 999), cone(1000, -1, -999, 1), cone(1000, 999, 1, 1), cone(999, 1, 1000, 3),
		cone(1, -1000, 1, 1000), cone(1000, 1, -1000, 1), cone(-1, 1000, -1, -1000), cone(-1000, -1, 1000, -1),
		cone(1000, -999, -999, 1000), cone(1000, 999, -999, 1000), cone(1000, -999, 999, 1000), cone(999, -1000, 1000, 999),
		cone(-1000, 1, 1000, -999), cone(1, 0, -1000, 1), cone(1, 0, 1000, 999), cone(1, 0, -1000, 999),
		cone(1, 0, 1, 1000), cone(1, 0, 999, 1000), cone(1, 0, 381, 1000), cone(0, 1, -1000, -999),
		cone(0, -1, 1000, 617), cone(999, 1, 998, 999), cone(610, 377, -377, 610), cone(1000, 619, -618, 997),
		cone(-7, -1000, 1000, 3), cone(-1000, -3, -1000, -7), cone(1, 1000, -1, 1000), cone(-3, -1000, 7, -1000),
	}
}

func goodCones() []Cone {
	return append(smallCones(), largeCones()...)
}

func smoothCones() []Cone {
	return slices.DeleteFunc(goodCones(), func(c Cone) bool { return vecDetOf(c.U, c.V) != 1 })
}

// badCones has what is no cone: by a ray that is 0, not primitive or no vector, or by its determinant.
func badCones() []Cone {
	list := []Cone{
		{}, cone(0, 0, 0, 1), cone(1, 0, 0, 0), cone(2, 0, 0, 1), cone(1, 0, 0, 2), cone(0, 3, -1, 0), cone(1, 1, -4, 6),
		cone(1000, 0, 0, 1), cone(1, 0, 0, 1000), cone(1, 0, 1000, 1000), cone(500, -500, 1, 0),
		cone(1, 0, 1, 0), cone(1, 0, -1, 0), cone(2, 3, 2, 3), cone(2, 3, -2, -3), cone(-999, 1000, 999, -1000),
		cone(0, 1, 1, 0), cone(1, 0, 0, -1), cone(1, 3, 1, 0), cone(999, 1000, 1000, 999),
		cone(3, 0, 0, wrapper), cone(wrapper, 0, 0, 3), cone(0, -3, wrapper, 0),
	}
	for _, n := range []int{1001, -1001, 1 << 32, math.MaxInt, math.MinInt} {
		list = append(list,
			cone(n, 1, -1, 0), cone(n, -1, 0, 1), cone(1, n, 0, 1), cone(-1, n, 0, -1), cone(0, -1, n, 1),
			cone(1, 0, n, 1), cone(0, -1, 1, n), cone(0, 1, -1, n), cone(n, n, n, n))
	}
	return list
}

// conesAndNone has cones and what is none.
func conesAndNone() []Cone {
	return append(goodCones(), badCones()...)
}
