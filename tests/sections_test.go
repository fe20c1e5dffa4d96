package tests

import (
	"math"
	"testing"

	"loop.example/toricfans/impl"
)

// TestSectionValues sees to it that the divisors that are listed have boxes and sections of all kinds.
func TestSectionValues(t *testing.T) {
	if impl.BoxMax != 10000 {
		t.Errorf("BoxMax is %d", impl.BoxMax)
	}
	kinds := map[string]int{}
	for _, f := range divisorFans() {
		for _, d := range goodDivisors(f) {
			kinds[kindOfBox(f, d)]++
		}
	}
	for _, kind := range []string{
		"empty in X", "empty in Y", "empty in both", "without sections", "with sections", "too many", "a bound too great",
	} {
		atLeast(t, kinds[kind], 100)
	}
	atLeast(t, kinds["10000"], 10)
}

// kindOfBox tells the kinds of boxes apart.
func kindOfBox(f Fan, d Divisor) string {
	l := limitsOf(f, d)
	noX, noY := l[1] < l[0], l[3] < l[2]
	switch {
	case !l.areBounds():
		return "a bound too great"
	case noX && noY:
		return "empty in both"
	case noX:
		return "empty in X"
	case noY:
		return "empty in Y"
	case l.vectors() > 10000:
		return "too many"
	case l.vectors() == 10000:
		return "10000"
	case len(sectionsOf(f, d)) == 0:
		return "without sections"
	default:
		return "with sections"
	}
}

func checkBox(t *testing.T, f Fan, d Divisor, due limits, valid bool) {
	t.Helper()
	if !valid {
		due = limits{}
	}
	leastX, mostX, leastY, mostY, ok := impl.SectionBox(f, d)
	if got := (limits{leastX, mostX, leastY, mostY}); ok != valid || got != due {
		t.Errorf("SectionBox(%v, %v) returned %v, %v, not %v, %v", f, d, got, ok, due, valid)
	}
}

func TestSectionBox(t *testing.T) {
	for _, f := range divisorFans() {
		for _, d := range divisorsAndNone(f) {
			if hasCoefs(f, d) {
				checkBox(t, f, d, limitsOf(f, d), true)
			} else {
				checkBox(t, f, d, limits{}, false)
			}
		}
	}
}

// TestSectionBoxOfSome has the bounds of vectors that are rays of two cones, and, for oblique fans and narrow ones, of vectors that are not.
func TestSectionBoxOfSome(t *testing.T) {
	oblique := fan(2, 1, 1, 1, -3, -2)
	obliqueSix := fan(3, 1, 5, 2, 2, 1, -3, -1, -5, -2, -2, -1)
	narrow := fan(1000, 999, -999, -998, -1, -1)
	six := fan(1, 0, 1, 1, 0, 1, -1, 0, -1, -1, 0, -1)
	steep := fan(1000, -1, 1, 0, 1000, 1, -1, 0)
	cases := []struct {
		f   Fan
		d   Divisor
		due limits
		ok  bool
	}{
		{planeFan(), Divisor{1, 1, 1}, limits{-1, 2, -1, 2}, true},
		{planeFan(), Divisor{1, 2, 4}, limits{-1, 6, -2, 5}, true},
		{turnedTo(planeFan(), 1), Divisor{2, 4, 1}, limits{-1, 6, -2, 5}, true},
		{turnedTo(planeFan(), 2), Divisor{4, 1, 2}, limits{-1, 6, -2, 5}, true},
		{planeFan(), Divisor{0, 0, 0}, limits{}, true},
		{planeFan(), Divisor{5, -7, 2}, limits{-5, -5, 7, 7}, true},
		{planeFan(), Divisor{0, 0, -1}, limits{0, -1, 0, -1}, true},
		{planeFan(), Divisor{-100, -100, -100}, limits{100, -200, 100, -200}, true},
		{planeFan(), Divisor{100, 100, 100}, limits{-100, 200, -100, 200}, true},
		{kindFan(0), Divisor{1, 2, 3, 4}, limits{-1, 3, -2, 4}, true},
		{kindFan(0), Divisor{1, 2, -3, 4}, limits{-1, -3, -2, 4}, true},
		{kindFan(0), Divisor{1, 2, 3, -4}, limits{-1, 3, -2, -4}, true},
		{kindFan(2), Divisor{1, 2, 3, 4}, limits{-1, 11, -2, 4}, true},
		{turnedTo(kindFan(2), 3), Divisor{4, 1, 2, 3}, limits{-1, 11, -2, 4}, true},
		{kindFan(-2), Divisor{1, 2, 3, 4}, limits{-1, 7, -2, 4}, true},
		{kindFan(10), Divisor{0, 0, 0, 100}, limits{0, 1000, 0, 100}, true},
		{kindFan(10), Divisor{0, 0, 1, 100}, limits{0, 1001, 0, 100}, true},
		{kindFan(1000), Divisor{7, 8, 100, 100}, limits{-7, 100100, -8, 100}, true},
		{kindFan(1000), Divisor{7, 8, -100, -100}, limits{-7, -100100, -8, -100}, true},
		{six, Divisor{1, 2, 3, 4, 5, 6}, limits{-1, 4, -3, 6}, true},
		{oblique, Divisor{1, 10, 100}, limits{-102, 120, -130, 203}, true},
		{oblique, Divisor{1, -10, 5}, limits{-7, -15, 25, 13}, true},
		{turnedTo(oblique, 1), Divisor{10, 100, 1}, limits{-102, 120, -130, 203}, true},
		{turnedTo(oblique, 2), Divisor{100, 1, 10}, limits{-102, 120, -130, 203}, true},
		{obliqueSix, Divisor{1, 2, 3, 4, 5, 6}, limits{-7, 7, -17, 20}, true},
		{turnedTo(obliqueSix, 4), Divisor{5, 6, 1, 2, 3, 4}, limits{-7, 7, -17, 20}, true},
		{steep, Divisor{1, 2, 3, 4}, limits{-2, 4, -4003, 4001}, true},
		{narrow, Divisor{1, 0, 0}, limits{-1, 998, -999, 1}, true},
		{narrow, Divisor{0, 1, 0}, limits{0, 999, -1000, 0}, true},
		{narrow, Divisor{0, 0, 1}, limits{-999, 0, 0, 1000}, true},
		{turnedTo(narrow, 2), Divisor{100, 0, 0}, limits{-99900, 0, 0, 100000}, true},
		{planeFan(), Divisor{101, 0, 0}, limits{}, false},
		{planeFan(), Divisor{0, 0, -101}, limits{}, false},
		{planeFan(), Divisor{1, 1}, limits{}, false},
		{planeFan(), Divisor{1, 1, 1, 1}, limits{}, false},
		{planeFan(), Divisor{math.MinInt, 1, math.MaxInt}, limits{}, false},
		{planeFan(), nil, limits{}, false},
		{fan(1, 0, 0, 1, -1, -2), Divisor{1, 1, 1}, limits{}, false},
		{reversedFan(planeFan()), Divisor{1, 1, 1}, limits{}, false},
		{fan(1, 0, 0, 1), Divisor{1, 1}, limits{}, false},
		{longFan(21, 5), filled(21, 1), limits{}, false},
		{nil, nil, limits{}, false},
	}
	for _, c := range cases {
		checkBox(t, c.f, c.d, c.due, c.ok)
	}
}

// TestSectionBoxOfTrivialOnes has the box of one section alone: the opposite of the vector of which the divisor is made.
func TestSectionBoxOfTrivialOnes(t *testing.T) {
	all := 0
	for _, f := range divisorFans() {
		for _, m := range shifts(f) {
			d := productsWith(f, m)
			if !hasCoefs(f, d) {
				continue
			}
			all++
			checkBox(t, f, d, limits{-m.X, -m.X, -m.Y, -m.Y}, true)
		}
	}
	atLeast(t, all, 10000)
}

func checkHas(t *testing.T, f Fan, d Divisor, m Vec, due bool) {
	t.Helper()
	if got := impl.SectionHas(f, d, m); got != due {
		t.Errorf("SectionHas(%v, %v, %v) returned %v", f, d, m, got)
	}
}

// around has the corners of all cones, the corners of the box and the vectors next to each of these.
func around(f Fan, d Divisor) []Vec {
	l := limitsOf(f, d)
	middles := append(cornersOf(f, d), Vec{X: l[0], Y: l[2]}, Vec{X: l[0], Y: l[3]}, Vec{X: l[1], Y: l[2]}, Vec{X: l[1], Y: l[3]})
	var list []Vec
	for _, m := range middles {
		for _, a := range fan(0, 0, 1, 0, 0, 1, -1, 0, 0, -1, 1, 1, -1, -1) {
			list = append(list, Vec{X: m.X + a.X, Y: m.Y + a.Y})
		}
	}
	return list
}

func TestSectionHas(t *testing.T) {
	sections, others, none := 0, 0, 0
	vecs := append(badVecs(), goodVecs()...)
	for i, f := range divisorFans() {
		for k, d := range goodDivisors(f) {
			list := append(around(f, d), vecs...)
			for j := (i + k) % 5; j < len(list); j += 5 {
				m := list[j]
				due := isSection(f, d, m)
				checkHas(t, f, d, m, due)
				switch {
				case due:
					sections++
				case isVec(m):
					others++
				default:
					none++
				}
			}
		}
	}
	atLeast(t, sections, 10000)
	atLeast(t, others, 10000)
	atLeast(t, none, 10000)
}

func TestSectionHasWithoutDivisors(t *testing.T) {
	for _, f := range divisorFans() {
		for _, d := range badDivisors(f) {
			checkHas(t, f, d, Vec{}, false)
			checkHas(t, f, d, Vec{X: 1, Y: 1}, false)
		}
	}
	for _, f := range unsmoothLists() {
		checkHas(t, f, filled(len(f), 100), Vec{}, false)
		checkHas(t, f, filled(len(f), 0), Vec{}, false)
	}
}

func TestSectionHasOfSome(t *testing.T) {
	cases := []struct {
		f   Fan
		d   Divisor
		m   Vec
		due bool
	}{
		{planeFan(), Divisor{1, 1, 1}, Vec{}, true},
		{planeFan(), Divisor{1, 1, 1}, Vec{X: -1, Y: -1}, true},
		{planeFan(), Divisor{1, 1, 1}, Vec{X: 2, Y: -1}, true},
		{planeFan(), Divisor{1, 1, 1}, Vec{X: -1, Y: 2}, true},
		{planeFan(), Divisor{1, 1, 1}, Vec{X: 1, Y: 0}, true},
		{planeFan(), Divisor{1, 1, 1}, Vec{X: 1, Y: 1}, false},
		{planeFan(), Divisor{1, 1, 1}, Vec{X: -2, Y: 0}, false},
		{planeFan(), Divisor{1, 1, 1}, Vec{X: 0, Y: -2}, false},
		{planeFan(), Divisor{0, 0, -1}, Vec{}, false},
		{planeFan(), Divisor{5, -7, 2}, Vec{X: -5, Y: 7}, true},
		{planeFan(), Divisor{100, 100, 100}, Vec{X: 200, Y: -100}, true},
		{planeFan(), Divisor{100, 100, 100}, Vec{X: 201, Y: -100}, false},
		{planeFan(), Divisor{100, 100, 100}, Vec{X: -100, Y: -100}, true},
		{planeFan(), Divisor{100, 100, 100}, Vec{X: -100, Y: -101}, false},
		{kindFan(11), Divisor{0, 0, 0, 100}, Vec{X: 1000, Y: 91}, true},
		{kindFan(11), Divisor{0, 0, 0, 100}, Vec{X: 1000, Y: 90}, false},
		{kindFan(11), Divisor{0, 0, 0, 100}, Vec{X: 1001, Y: 91}, false},
		{kindFan(11), Divisor{0, 0, 0, 100}, Vec{X: 1001, Y: 100}, false},
		{kindFan(1000), Divisor{0, 0, 100, 100}, Vec{X: 1000, Y: 1}, true},
		{kindFan(1000), Divisor{0, 0, 100, 100}, Vec{X: 100, Y: 0}, true},
		{kindFan(1000), Divisor{0, 0, 100, 100}, Vec{X: 101, Y: 0}, false},
		{kindFan(1000), Divisor{0, 0, 100, 100}, Vec{X: 1001, Y: 2}, false},
		{planeFan(), Divisor{100, 100, 100}, Vec{X: math.MinInt, Y: math.MinInt}, false},
		{planeFan(), Divisor{100, 100, 100}, Vec{X: math.MaxInt, Y: math.MaxInt}, false},
		{planeFan(), Divisor{1, 1, 2}, Vec{X: math.MaxInt, Y: 1}, false},
		{planeFan(), Divisor{101, 1, 1}, Vec{}, false},
		{planeFan(), Divisor{1, 1, math.MaxInt}, Vec{}, false},
		{planeFan(), Divisor{1, 1}, Vec{}, false},
		{planeFan(), Divisor{1, 1, 1, 1}, Vec{}, false},
		{planeFan(), nil, Vec{}, false},
		{fan(1, 0, 0, 1, -1, -2), Divisor{1, 1, 1}, Vec{}, false},
		{reversedFan(planeFan()), Divisor{1, 1, 1}, Vec{}, false},
		{nil, nil, Vec{}, false},
	}
	for _, c := range cases {
		checkHas(t, c.f, c.d, c.m, c.due)
	}
}

// TestSectionHasOfAnyVectors takes vectors of every edge number, valid or not.
func TestSectionHasOfAnyVectors(t *testing.T) {
	for _, f := range []Fan{planeFan(), turnedTo(kindFan(3), 2), kindFan(1000), evenFan()} {
		for _, d := range []Divisor{filled(len(f), 100), filled(len(f), 0), filled(len(f), 3), unit(len(f), 1, -2)} {
			for _, m := range anyVecs() {
				checkHas(t, f, d, m, isVec(m) && isSection(f, d, m))
			}
		}
	}
}
