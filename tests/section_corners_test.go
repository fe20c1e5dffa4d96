package tests

import (
	"math"
	"slices"
	"testing"

	"loop.example/toricfans/impl"
)

// checkCorners holds the corners of a divisor, and twice the area, against those that are due if it is nef.
func checkCorners(t *testing.T, f Fan, d Divisor) {
	t.Helper()
	var corners []Vec
	area, valid := 0, isDivisor(f, d) && isNef(tableOf(f), d)
	if valid {
		corners = cornersOf(f, d)
		area, valid = areaOf(corners), areVecs(corners)
	}
	got, ok := impl.SectionCorners(f, d)
	checkFan(t, "SectionCorners", f, d, got, ok, corners, valid)
	n, ok := impl.SectionArea(f, d)
	checkNumber(t, "SectionArea", f, d, nil, n, ok, area, valid)
}

func TestSectionCorners(t *testing.T) {
	others, beyond, same, differ := 0, 0, 0, 0
	for _, f := range divisorFans() {
		table := tableOf(f)
		for _, d := range divisorsAndNone(f) {
			checkCorners(t, f, d)
			switch {
			case !hasCoefs(f, d):
			case !isNef(table, d):
				others++
			case !areVecs(cornersOf(f, d)):
				beyond++
			case isAmple(table, d):
				differ++
			default:
				same++
			}
		}
	}
	atLeast(t, others, 5000)
	atLeast(t, beyond, 10)
	atLeast(t, same, 300)
	atLeast(t, differ, 300)
}

func TestSectionCornersWithoutSmoothFans(t *testing.T) {
	for _, f := range unsmoothLists() {
		checkCorners(t, f, filled(len(f), 0))
		checkCorners(t, f, filled(len(f), 1))
	}
}

// TestSectionCornersAreExtreme holds the corners of nef divisors against the sections: with both rays of a cone its corner has the least product of all.
func TestSectionCornersAreExtreme(t *testing.T) {
	all := 0
	for _, f := range divisorFans() {
		for _, d := range nefDivisors(f) {
			if !limitsOf(f, d).areTold() {
				continue
			}
			all++
			sections := sectionsOf(f, d)
			corners, ok := impl.SectionCorners(f, d)
			if !ok || len(corners) != len(f) {
				t.Fatalf("SectionCorners(%v, %v) returned %v, %v", f, d, corners, ok)
			}
			for i, m := range corners {
				least := slices.Min(productsOf(f[i], sections))
				next := slices.Min(productsOf(nextOf(f, i), sections))
				if !slices.Contains(sections, m) || vecProductOf(f[i], m) != least || vecProductOf(nextOf(f, i), m) != next {
					t.Errorf("the corner %d of %v of %v is %v", i, d, f, m)
				}
			}
		}
	}
	atLeast(t, all, 500)
}

// productsOf returns the products of a ray with some vectors.
func productsOf(a Vec, list []Vec) []int {
	var products []int
	for _, m := range list {
		products = append(products, vecProductOf(a, m))
	}
	return products
}

func TestSectionCornersOfSome(t *testing.T) {
	six := fan(1, 0, 1, 1, 0, 1, -1, 0, -1, -1, 0, -1)
	narrow := fan(1000, 999, -999, -998, -1, -1)
	cases := []struct {
		f    Fan
		d    Divisor
		due  []Vec
		area int
	}{
		{planeFan(), Divisor{1, 1, 1}, fan(-1, -1, 2, -1, -1, 2), 9},
		{turnedTo(planeFan(), 1), Divisor{1, 1, 1}, fan(2, -1, -1, 2, -1, -1), 9},
		{planeFan(), Divisor{1, 0, -1}, fan(-1, 0, -1, 0, -1, 0), 0},
		{planeFan(), Divisor{0, 0, 0}, fan(0, 0, 0, 0, 0, 0), 0},
		{planeFan(), Divisor{100, 100, 100}, fan(-100, -100, 200, -100, -100, 200), 90000},
		{planeFan(), Divisor{50, 50, -100}, fan(-50, -50, -50, -50, -50, -50), 0},
		{planeFan(), Divisor{0, 0, -1}, nil, 0},
		{planeFan(), Divisor{-1, 2, -2}, nil, 0},
		{kindFan(0), Divisor{1, 2, 3, 4}, fan(-1, -2, 3, -2, 3, 4, -1, 4), 48},
		{kindFan(0), Divisor{0, 1, 0, 0}, fan(0, -1, 0, -1, 0, 0, 0, 0), 0},
		{kindFan(0), Divisor{5, 0, -6, 0}, nil, 0},
		{kindFan(3), Divisor{0, 0, 0, 1}, fan(0, 0, 0, 0, 3, 1, 0, 1), 3},
		{kindFan(3), Divisor{0, 1, 0, 0}, nil, 0},
		{kindFan(10), Divisor{0, 0, 0, 100}, fan(0, 0, 0, 0, 1000, 100, 0, 100), 100000},
		{kindFan(10), Divisor{0, 0, 1, 100}, nil, 0},
		{kindFan(10), Divisor{-1, 0, 1, 100}, nil, 0},
		{kindFan(-10), Divisor{0, 100, 0, 0}, fan(0, -100, 1000, -100, 0, 0, 0, 0), 100000},
		{kindFan(-10), Divisor{0, 100, 1, 0}, nil, 0},
		{kindFan(1000), Divisor{0, 0, 0, 1}, fan(0, 0, 0, 0, 1000, 1, 0, 1), 1000},
		{kindFan(1000), Divisor{0, 0, 0, 2}, nil, 0},
		{kindFan(1000), Divisor{100, 0, -100, 1}, fan(-100, 0, -100, 0, 900, 1, -100, 1), 1000},
		{six, filled(6, 1), fan(-1, 0, 0, -1, 1, -1, 1, 0, 0, 1, -1, 1), 6},
		{six, Divisor{1, 1, 1, 2, 1, 1}, fan(-1, 0, 0, -1, 2, -1, 2, -1, 0, 1, -1, 1), 7},
		{six, Divisor{1, 1, 1, 3, 1, 1}, nil, 0},
		{narrow, Divisor{1, 0, 0}, fan(998, -999, 0, 0, -1, 1), 1},
		{narrow, Divisor{1, 1, -1}, nil, 0},
		{narrow, Divisor{2, -1, 0}, fan(997, -998, -1, 1, -2, 2), 1},
		{narrow, Divisor{2, 0, -1}, nil, 0},
		{narrow, Divisor{2, 0, 0}, nil, 0},
		{narrow, Divisor{0, 0, 1}, fan(0, 0, -998, 999, -999, 1000), 1},
		{longFan(20, 5), filled(20, 0), filledVecs(20, Vec{}), 0},
		{planeFan(), Divisor{101, 0, 0}, nil, 0},
		{planeFan(), Divisor{1, 1}, nil, 0},
		{planeFan(), Divisor{1, 1, 1, 1}, nil, 0},
		{planeFan(), Divisor{math.MaxInt, math.MaxInt, math.MaxInt}, nil, 0},
		{planeFan(), nil, nil, 0},
		{fan(1, 0, 0, 1, -1, -2), Divisor{1, 1, 1}, nil, 0},
		{reversedFan(planeFan()), Divisor{1, 1, 1}, nil, 0},
		{fan(1, 0, 0, 1), Divisor{1, 1}, nil, 0},
		{longFan(21, 5), filled(21, 0), nil, 0},
		{nil, nil, nil, 0},
	}
	for _, c := range cases {
		got, ok := impl.SectionCorners(c.f, c.d)
		checkFan(t, "SectionCorners", c.f, c.d, got, ok, c.due, c.due != nil)
		n, ok := impl.SectionArea(c.f, c.d)
		checkNumber(t, "SectionArea", c.f, c.d, nil, n, ok, c.area, c.due != nil)
	}
}

func filledVecs(size int, m Vec) []Vec {
	return slices.Repeat([]Vec{m}, size)
}

// TestSectionCornersAtTheLimit has nef divisors with a corner one number of which is just 1000 or 1001 in size, with X and with Y, each way.
func TestSectionCornersAtTheLimit(t *testing.T) {
	within, beyond := 0, 0
	for _, f := range quarterTurns(fan(10, 1, -1, 0, -9, -1)) {
		for n := range 5 * 3 * 4 {
			d := Divisor{[]int{-1, 0, 1, 9, 10}[n%5], []int{-100, 0, 100}[n/5%3], []int{91, 92, 99, 100}[n/15]}
			for i := range f {
				checkCorners(t, turnedTo(f, i), slices.Concat(d[i:], d[:i]))
			}
			switch {
			case !isNef(tableOf(f), d):
			case sizeOf(cornersOf(f, d)) == 1000:
				within++
			case sizeOf(cornersOf(f, d)) == 1001:
				beyond++
			}
		}
	}
	atLeast(t, within, 16)
	atLeast(t, beyond, 16)
}

// sizeOf returns the greatest size of a number of some vectors.
func sizeOf(list []Vec) int {
	size := 0
	for _, m := range list {
		size = max(size, m.X, -m.X, m.Y, -m.Y)
	}
	return size
}
