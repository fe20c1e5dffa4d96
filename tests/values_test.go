package tests

import (
	"math"

	"loop.example/toricfans/impl"
)

type Vec = impl.Vec
type Mat = impl.Mat

// wrapper times 3 wraps around to 1, so that a determinant of such numbers looks like that of a matrix.
const wrapper = -6148914691236517205

// edgeNumbers has small numbers, those around the limits, and those whose sums and products wrap around.
func edgeNumbers() []int {
	return []int{
		-3, -2, -1, 0, 1, 2, 3, 500, -501,
		999, 1000, 1001, -999, -1000, -1001,
		1 << 32, -1 << 32, math.MinInt, math.MaxInt,
	}
}

func inRange(n int) bool {
	return n >= -1000 && n <= 1000
}

func isVec(a Vec) bool {
	return inRange(a.X) && inRange(a.Y)
}

func isMat(m Mat) bool {
	if !inRange(m.A) || !inRange(m.B) || !inRange(m.C) || !inRange(m.D) {
		return false
	}
	d := m.A*m.D - m.B*m.C
	return d*d == 1
}

// anyVecs has every vector of edge numbers, valid or not.
func anyVecs() []Vec {
	var list []Vec
	for _, x := range edgeNumbers() {
		for _, y := range edgeNumbers() {
			list = append(list, Vec{X: x, Y: y})
		}
	}
	return list
}

// goodVecs has a square of small vectors and some that are large or lie close together.
func goodVecs() []Vec {
	list := []Vec{
		{X: 1000, Y: 1000}, {X: -1000, Y: -1000}, {X: 1000, Y: -1000}, {X: -1000, Y: 1000},
		{X: 1000, Y: 0}, {X: -1000, Y: 0}, {X: 0, Y: 1000}, {X: 0, Y: -1000},
		{X: 1000, Y: 999}, {X: 999, Y: 998}, {X: -1000, Y: -999}, {X: -999, Y: -998},
		{X: 1000, Y: 1}, {X: 999, Y: 1}, {X: 1000, Y: -1}, {X: 999, Y: -1},
		{X: -1000, Y: 1}, {X: -999, Y: 1}, {X: -1000, Y: -1}, {X: -999, Y: -1},
		{X: 1, Y: 1000}, {X: -1, Y: 1000}, {X: 1, Y: -1000}, {X: -1, Y: -1000},
		{X: 500, Y: 500}, {X: 501, Y: 500}, {X: 600, Y: -400}, {X: 840, Y: 360}, {X: -512, Y: 768},
	}
	for x := -6; x <= 6; x++ {
		for y := -6; y <= 6; y++ {
			list = append(list, Vec{X: x, Y: y})
		}
	}
	return list
}

// badVecs has what is no vector, each for one number alone.
func badVecs() []Vec {
	var list []Vec
	for _, n := range []int{1001, -1001, math.MaxInt, math.MinInt} {
		list = append(list, Vec{X: n, Y: 1}, Vec{X: 1, Y: n})
	}
	return list
}

// goodMats has all matrices of small numbers, and some of large ones.
func goodMats() []Mat {
	list := []Mat{
		{A: 1, B: 1000, C: 0, D: 1}, {A: 1, B: -1000, C: 0, D: 1},
		{A: 1, B: 0, C: 1000, D: 1}, {A: -1, B: 0, C: -1000, D: 1},
		{A: 1000, B: 999, C: 1, D: 1}, {A: 1000, B: 999, C: 999, D: 998},
		{A: -1000, B: -999, C: -999, D: -998}, {A: 1000, B: 1, C: 999, D: 1},
		{A: 1000, B: -1, C: 1, D: 0}, {A: 0, B: 1, C: 1, D: 1000},
		{A: 34, B: 21, C: 21, D: 13}, {A: 21, B: 13, C: 34, D: 21},
	}
	for _, m := range smallMats() {
		if isMat(m) {
			list = append(list, m)
		}
	}
	return list
}

// smallMats has every combination of four small numbers, most of them no matrix.
func smallMats() []Mat {
	var list []Mat
	for n := 0; n < 5*5*5*5; n++ {
		list = append(list, Mat{A: n%5 - 2, B: n/5%5 - 2, C: n/25%5 - 2, D: n/125 - 2})
	}
	return list
}

// badMats has what is no matrix: by its determinant, by one number alone, or by numbers that wrap around.
func badMats() []Mat {
	list := []Mat{
		{}, {A: 1}, {A: 1, B: 1, C: 1, D: 1}, {A: 2, B: 0, C: 0, D: 1}, {A: 1, B: 0, C: 0, D: -2},
		{A: 1000, B: 1000, C: 1000, D: 1000}, {A: 1000, B: 0, C: 0, D: 1000}, {A: 2, B: 3, C: 3, D: 3},
		{A: 3, B: 0, C: 0, D: wrapper}, {A: wrapper, B: 0, C: 0, D: 3},
		{A: 0, B: 3, C: wrapper, D: 0}, {A: 0, B: wrapper, C: 3, D: 0},
		{A: math.MinInt, B: math.MaxInt, C: math.MaxInt, D: math.MinInt},
		{A: 1001, B: 1000, C: 1, D: 1}, {A: 1, B: 1001, C: 0, D: 1},
		{A: 1, B: 0, C: 1001, D: 1}, {A: 1, B: 1, C: 1000, D: 1001},
	}
	for _, n := range []int{1001, -1001, 1 << 32, math.MaxInt, math.MinInt} {
		list = append(list,
			Mat{A: n, B: 1, C: -1, D: 0}, Mat{A: 1, B: n, C: 0, D: 1},
			Mat{A: 1, B: 0, C: n, D: 1}, Mat{A: 0, B: 1, C: -1, D: n})
	}
	return list
}
