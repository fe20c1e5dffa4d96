package tests

import (
	"math"
	"slices"
	"testing"

	"loop.example/toricfans/impl"
)

func sameTable(a, b [][]int) bool {
	return slices.EqualFunc(a, b, slices.Equal[[]int])
}

// TestSurfaceFans counts fans by their rays.
func TestSurfaceFans(t *testing.T) {
	sizes := map[int]int{}
	whole := 0
	for _, f := range surfaceFans() {
		if isSmooth(f) {
			sizes[len(f)]++
		} else if isFan(f) {
			whole++
		}
	}
	for size, least := range map[int]int{3: 1000, 4: 1000, 8: 500, 9: 200, 10: 200, 11: 100, 20: 200} {
		atLeast(t, sizes[size], least)
	}
	atLeast(t, whole, 2000)
	for _, f := range wholeThrees() {
		if !isFan(f) || isSmooth(f) || len(f) != 3 {
			t.Errorf("%v is listed as a fan with three rays that is not smooth", f)
		}
	}
}

func TestSurfaceKind(t *testing.T) {
	for k := -110; k <= 110; k++ {
		got, ok := impl.SurfaceKind(k)
		checkFan(t, "SurfaceKind", nil, k, got, ok, kindFan(k), k >= 0 && k <= 100)
	}
	for _, k := range append(edgeNumbers(), math.MinInt+1, math.MaxInt-1, 1<<32+1, wrapper) {
		got, ok := impl.SurfaceKind(k)
		checkFan(t, "SurfaceKind", nil, k, got, ok, kindFan(k), k >= 0 && k <= 100)
	}
}

func TestSurfaceKindOfSome(t *testing.T) {
	cases := []struct {
		k   int
		due Fan
	}{
		{-1, nil},
		{0, fan(1, 0, 0, 1, -1, 0, 0, -1)},
		{1, fan(1, 0, 0, 1, -1, 1, 0, -1)},
		{7, fan(1, 0, 0, 1, -1, 7, 0, -1)},
		{100, fan(1, 0, 0, 1, -1, 100, 0, -1)},
		{101, nil},
		{math.MinInt, nil},
		{math.MaxInt, nil},
	}
	for _, c := range cases {
		got, ok := impl.SurfaceKind(c.k)
		checkFan(t, "SurfaceKind", nil, c.k, got, ok, c.due, c.due != nil)
	}
}

// checkSurface holds the rank, the square, the table and the determinant of a list against those that are due.
func checkSurface(t *testing.T, f Fan) {
	t.Helper()
	smooth := isSmooth(f)
	due := surfaceDue{}
	if smooth {
		canonical := filled(len(f), -1)
		due = surfaceDue{len(f) - 2, productIn(tableOf(f), canonical, canonical), restTableOf(f), 0}
	}
	rank, ok := impl.SurfaceRank(f)
	checkNumber(t, "SurfaceRank", f, nil, nil, rank, ok, due.rank, smooth)
	square, ok := impl.SurfaceSquare(f)
	checkNumber(t, "SurfaceSquare", f, nil, nil, square, ok, due.square, smooth)
	table, ok := impl.SurfaceTable(f)
	if ok != smooth || !sameTable(table, due.table) {
		t.Errorf("SurfaceTable(%v) returned %v, %v, not %v", f, table, ok, due.table)
	}
	if smooth && len(f) <= 9 {
		due.det = determinantOf(due.table)
	}
	det, ok := impl.SurfaceDet(f)
	checkNumber(t, "SurfaceDet", f, nil, nil, det, ok, due.det, smooth && len(f) <= 9)
}

type surfaceDue struct {
	rank   int
	square int
	table  [][]int
	det    int
}

func TestSurfaces(t *testing.T) {
	for _, f := range surfaceFans() {
		checkSurface(t, f)
	}
}

// TestSurfacesWithThreeRays has one row with the number 1, from each ray on, also turned over.
func TestSurfacesWithThreeRays(t *testing.T) {
	list := append(smoothThrees(), allTurns(planeFan())...)
	for _, f := range list {
		checkSurface(t, f)
		table, ok := impl.SurfaceTable(f)
		if !ok || !sameTable(table, [][]int{{1}}) {
			t.Errorf("SurfaceTable(%v) returned %v, %v", f, table, ok)
		}
		square, ok := impl.SurfaceSquare(f)
		checkNumber(t, "SurfaceSquare", f, nil, nil, square, ok, 9, true)
		rank, ok := impl.SurfaceRank(f)
		checkNumber(t, "SurfaceRank", f, nil, nil, rank, ok, 1, true)
		det, ok := impl.SurfaceDet(f)
		checkNumber(t, "SurfaceDet", f, nil, nil, det, ok, 1, true)
		sum, ok := impl.NumbersSum(f)
		checkNumber(t, "NumbersSum", f, nil, nil, sum, ok, 12, true)
		checkSurfaceAmple(t, f, true)
	}
	atLeast(t, len(list), 1000)
	for _, f := range wholeThrees() {
		checkNoSurface(t, f)
	}
}

// TestSurfaceDetOfManyRays has fans with just 9 rays and with just 10, from each ray on: the table is told for all of them.
func TestSurfaceDetOfManyRays(t *testing.T) {
	for rays := 3; rays <= 20; rays++ {
		for step := 3; step <= 7; step++ {
			for _, f := range allTurns(longFan(rays, step)) {
				due := 1
				if rays%2 == 0 {
					due = -1
				}
				det, ok := impl.SurfaceDet(f)
				checkNumber(t, "SurfaceDet", f, nil, nil, det, ok, due, rays <= 9)
				table, ok := impl.SurfaceTable(f)
				if !ok || len(table) != rays-2 || determinantOf(table) != due {
					t.Errorf("SurfaceTable(%v) returned %v, %v", f, table, ok)
				}
				checkSurface(t, f)
			}
		}
	}
}

func TestSurfaceTableOfSome(t *testing.T) {
	six := fan(1, 0, 1, 1, 0, 1, -1, 0, -1, -1, 0, -1)
	cases := []struct {
		f     Fan
		table [][]int
		det   int
	}{
		{planeFan(), [][]int{{1}}, 1},
		{turnedTo(planeFan(), 2), [][]int{{1}}, 1},
		{kindFan(0), [][]int{{0, 1}, {1, 0}}, -1},
		{kindFan(3), [][]int{{0, 1}, {1, 3}}, -1},
		{turnedTo(kindFan(3), 1), [][]int{{3, 1}, {1, 0}}, -1},
		{turnedTo(kindFan(3), 2), [][]int{{0, 1}, {1, -3}}, -1},
		{kindFan(1000), [][]int{{0, 1}, {1, 1000}}, -1},
		{fan(1000, -1, 1, 0, 1000, 1, -1, 0), [][]int{{0, 1}, {1, 2000}}, -1},
		{fan(1000, 1, -1, 0, 1000, -1, 1, 0), [][]int{{0, 1}, {1, -2000}}, -1},
		{fan(1, 0, 1, 1, 0, 1, -1, 0, 0, -1), [][]int{{-1, 1, 0}, {1, 0, 1}, {0, 1, 0}}, 1},
		{six, [][]int{{-1, 1, 0, 0}, {1, -1, 1, 0}, {0, 1, -1, 1}, {0, 0, 1, -1}}, -1},
		{fan(1, 0, 0, 1, -1, -2), nil, 0},
		{reversedFan(planeFan()), nil, 0},
		{fan(1, 0, 0, 1), nil, 0},
		{slices.Repeat(planeFan(), 2), nil, 0},
		{longFan(21, 5), nil, 0},
		{nil, nil, 0},
	}
	for _, c := range cases {
		table, ok := impl.SurfaceTable(c.f)
		if ok != (c.table != nil) || !sameTable(table, c.table) {
			t.Errorf("SurfaceTable(%v) returned %v, %v, not %v", c.f, table, ok, c.table)
		}
		det, ok := impl.SurfaceDet(c.f)
		checkNumber(t, "SurfaceDet", c.f, nil, nil, det, ok, c.det, c.table != nil)
	}
}

// TestSurfaceSquareOfGreatNumbers has numbers up to 2000 in size.
func TestSurfaceSquareOfGreatNumbers(t *testing.T) {
	great := 0
	list := append(largeFans(), fan(1000, 1, -1, 0, 1000, -1, 1, 0))
	for k := -1000; k <= 1000; k += 50 {
		list = append(list, kindFan(k))
	}
	for _, f := range list {
		for _, g := range allTurns(f) {
			got, ok := impl.SurfaceSquare(g)
			checkNumber(t, "SurfaceSquare", g, nil, nil, got, ok, 12-len(g), true)
			checkSurface(t, g)
			checkNumbersSum(t, g)
			if greatest(numbersOfFan(g)) >= 1000 {
				great++
			}
		}
	}
	atLeast(t, great, 20)
}

func checkSurfaceAmple(t *testing.T, f Fan, due bool) {
	t.Helper()
	if got := impl.SurfaceAmple(f); got != due {
		t.Errorf("SurfaceAmple(%v) returned %v", f, got)
	}
}

// TestSurfaceAmple counts fans by the least of their numbers, and ample ones by their rays.
func TestSurfaceAmple(t *testing.T) {
	least, rays := map[int]int{}, map[int]int{}
	for _, f := range surfaceFans() {
		due := isSmooth(f) && isAmple(tableOf(f), filled(len(f), 1))
		checkSurfaceAmple(t, f, due)
		if !isSmooth(f) {
			continue
		}
		n := slices.Min(numbersOfFan(f))
		least[n]++
		if due != (n >= -1) {
			t.Errorf("the least number of %v is %d", f, n)
		}
		if due {
			rays[len(f)]++
		}
	}
	for n := -4; n <= 1; n++ {
		atLeast(t, least[n], 20)
	}
	for n := 3; n <= 6; n++ {
		atLeast(t, rays[n], 20)
	}
	if len(rays) != 4 {
		t.Errorf("ample ones by their rays: %v", rays)
	}
}

func TestSurfaceAmpleOfSome(t *testing.T) {
	six := fan(1, 0, 1, 1, 0, 1, -1, 0, -1, -1, 0, -1)
	cases := []struct {
		f   Fan
		due bool
	}{
		{planeFan(), true},
		{turnedTo(planeFan(), 1), true},
		{kindFan(0), true},
		{kindFan(1), true},
		{kindFan(-1), true},
		{turnedTo(kindFan(1), 3), true},
		{kindFan(2), false},
		{turnedTo(kindFan(2), 1), false},
		{turnedTo(kindFan(2), 2), false},
		{turnedTo(kindFan(2), 3), false},
		{kindFan(-2), false},
		{kindFan(1000), false},
		{fan(1, 0, 1, 1, 0, 1, -1, 0, 0, -1), true},
		{six, true},
		{turnedTo(six, 4), true},
		{blownUp(six, 0), false},
		{longFan(20, 5), false},
		{longFan(21, 5), false},
		{fan(1, 0, 0, 1, -1, -2), false},
		{fan(1, 1, -1, 1, -1, -1, 1, -1), false},
		{reversedFan(planeFan()), false},
		{slices.Repeat(planeFan(), 2), false},
		{fan(1, 0, 0, 1), false},
		{fan(2, 0, 0, 1, -1, -1), false},
		{fan(1, 0, 0, 1, math.MinInt, math.MinInt), false},
		{nil, false},
	}
	for _, c := range cases {
		checkSurfaceAmple(t, c.f, c.due)
	}
}
