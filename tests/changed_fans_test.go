package tests

import (
	"math"
	"slices"
	"testing"

	"loop.example/toricfans/impl"
)

// resolvedOf puts the whole bases of all cones together; the size is the greatest one of a number of a ray.
func resolvedOf(f Fan, size int) Fan {
	var g Fan
	for i := range f {
		base := baseOf(coneOf(f, i), size)
		g = append(g, base[:len(base)-1]...)
	}
	return g
}

func TestFanResolve(t *testing.T) {
	for i, f := range slices.Concat(fansOf(primitives(2), 3), fansOf(primitives(2), 4), fansOf(primitives(2), 5)) {
		g := turnedTo(f, i%len(f))
		due := resolvedOf(g, 2)
		got, ok := impl.FanResolve(g)
		checkFan(t, "FanResolve", g, nil, got, ok, due, isSmooth(due))
	}
	for _, rays := range []int{3, 4, 7, 12, 18, 19, 20} {
		for _, f := range allTurns(roundFan(4, rays)) {
			due := resolvedOf(f, 4)
			got, ok := impl.FanResolve(f)
			checkFan(t, "FanResolve", f, nil, got, ok, due, isSmooth(due))
		}
	}
}

func TestFanResolveOfSmoothOnesAndNone(t *testing.T) {
	for _, f := range smoothFans() {
		got, ok := impl.FanResolve(f)
		checkFan(t, "FanResolve", f, nil, got, ok, f, true)
	}
	for _, f := range badFans() {
		got, ok := impl.FanResolve(f)
		checkFan(t, "FanResolve", f, nil, got, ok, nil, false)
	}
}

// steepFan has a cone with a whole base of some vectors, and 3 smooth ones.
func steepFan(vectors int) Fan {
	return fan(1, 0, 1, vectors-1, 0, 1, -1, 0, 0, -1)
}

// The vectors of a base are between both rays and 0, so that none of them leaves the range.
func TestFanResolveOfSome(t *testing.T) {
	cases := []struct{ f, due Fan }{
		{fan(1, 0, 0, 1, -1, -2), fan(1, 0, 0, 1, -1, -2, 0, -1)},
		{fan(0, 1, -1, -2, 1, 0), fan(0, 1, -1, -2, 0, -1, 1, 0)},
		{fan(-1, -2, 1, 0, 0, 1), fan(-1, -2, 0, -1, 1, 0, 0, 1)},
		{fan(1, 1, -1, 1, -1, -1, 1, -1), fan(1, 1, 0, 1, -1, 1, -1, 0, -1, -1, 0, -1, 1, -1, 1, 0)},
		{fan(2, 1, -1, 1, -1, -2), fan(2, 1, 1, 1, 0, 1, -1, 1, -1, 0, -1, -1, -1, -2, 0, -1, 1, 0)},
		{fan(1, 0, 0, 1, -1, -1000), fan(1, 0, 0, 1, -1, -1000, 0, -1)},
		{fan(1, 0, 999, 1000, 0, 1, -1, -1), nil},
		{fan(1, 0, 0, 1, -999, -1000), nil},
		{fan(1, -1000, 1, 1000, -1, 0), nil},
		{fan(1000, 999, -999, 1000, -1000, -999, 999, -1000), nil},
	}
	for _, c := range cases[:5] {
		checkFan(t, "the bases of", c.f, nil, resolvedOf(c.f, 2), true, c.due, true)
	}
	for _, c := range cases {
		got, ok := impl.FanResolve(c.f)
		checkFan(t, "FanResolve", c.f, nil, got, ok, c.due, c.due != nil)
	}
}

func TestFanResolveToTwentyRaysAndMore(t *testing.T) {
	for vectors := 2; vectors <= 30; vectors++ {
		for _, f := range allTurns(steepFan(vectors)) {
			got, ok := impl.FanResolve(f)
			valid := vectors+3 <= 20
			if ok != valid || valid && (len(got) != vectors+3 || !isSmooth(got) || got[0] != f[0]) || !valid && len(got) != 0 {
				t.Errorf("FanResolve(%v) returned %v, %v", f, got, ok)
			}
		}
	}
}

// TestFanResolveOfLarge holds what is added between two rays against what a whole base is known by.
func TestFanResolveOfLarge(t *testing.T) {
	times := 0
	for x := -1000; x <= 1000; x += 37 {
		for y := -1000; y <= 1000; y += 41 {
			f, ok := impl.FanOf([]Vec{{X: x, Y: y}, {X: -1, Y: 0}, {X: 1, Y: 0}, {X: 0, Y: -1}, {X: 0, Y: 1}})
			g, fine := impl.FanResolve(f)
			if !ok || !fine {
				continue
			}
			times++
			numbers := numbersOfFan(g)
			for i, a := range g {
				if !slices.Contains(f, a) && numbers[i] > -2 {
					t.Errorf("FanResolve(%v) has %v", f, a)
				}
			}
			if !isSmooth(g) || g[0] != f[0] {
				t.Errorf("FanResolve(%v) returned %v", f, g)
			}
		}
	}
	atLeast(t, times, 100)
}

// movedFan moves all rays and puts them in order by their angles.
func movedFan(f Fan, m Mat) (Fan, bool) {
	if !isFan(f) || !isMat(m) {
		return nil, false
	}
	var g Fan
	for _, a := range f {
		g = append(g, Vec{X: m.A*a.X + m.B*a.Y, Y: m.C*a.X + m.D*a.Y})
	}
	g = sortedFan(g)
	return g, isFan(g)
}

func TestFanMove(t *testing.T) {
	times := 0
	mats := append(goodMats(), badMats()...)
	for i, f := range fansAndNone() {
		for k := i % 3; k < len(mats); k += 3 {
			due, valid := movedFan(f, mats[k])
			got, ok := impl.FanMove(f, mats[k])
			checkFan(t, "FanMove", f, mats[k], got, ok, due, valid)
			if valid {
				times++
			}
		}
	}
	atLeast(t, times, 10000)
}

func TestFanMoveOfSome(t *testing.T) {
	shear := Mat{A: 1, B: 1, C: 0, D: 1}
	mirror := Mat{A: 0, B: 1, C: 1, D: 0}
	cases := []struct {
		f   Fan
		m   Mat
		due Fan
	}{
		{planeFan(), Mat{A: 1, B: 0, C: 0, D: 1}, planeFan()},
		{turnedTo(planeFan(), 2), Mat{A: 1, B: 0, C: 0, D: 1}, planeFan()},
		{planeFan(), mirror, planeFan()},
		{turnedTo(planeFan(), 1), mirror, planeFan()},
		{planeFan(), shear, fan(1, 0, 1, 1, -2, -1)},
		{kindFan(2), mirror, fan(1, 0, 0, 1, -1, 0, 2, -1)},
		{kindFan(2), Mat{A: 0, B: -1, C: 1, D: 0}, fan(1, 0, 0, 1, -1, 0, -2, -1)},
		{kindFan(2), Mat{A: -1, B: 0, C: 0, D: 1}, fan(1, 2, 0, 1, -1, 0, 0, -1)},
		{fan(601, 399, -1, 0, 0, -1), shear, fan(1000, 399, -1, 0, -1, -1)},
		{fan(601, 400, -1, 0, 0, -1), shear, nil},
		{fan(-601, -400, 1, 0, 0, 1), shear, nil},
		{fan(0, -1, 601, 400, -1, 0), shear, nil},
		{kindFan(1000), mirror, fan(1, 0, 0, 1, -1, 0, 1000, -1)},
		{kindFan(1000), Mat{A: 1, B: 0, C: -1, D: 1}, nil},
		{planeFan(), Mat{A: 2, B: 0, C: 0, D: 1}, nil},
		{planeFan(), Mat{}, nil},
		{planeFan(), Mat{A: math.MinInt, B: math.MaxInt, C: math.MinInt, D: math.MaxInt}, nil},
		{reversedFan(planeFan()), mirror, nil},
		{reversedFan(planeFan()), shear, nil},
		{nil, shear, nil},
	}
	for _, c := range cases {
		got, ok := impl.FanMove(c.f, c.m)
		checkFan(t, "FanMove", c.f, c.m, got, ok, c.due, c.due != nil)
	}
}

// callAll calls every function that takes a list of vectors, and returns all lists that result.
func callAll(f Fan) [][]Vec {
	var results [][]Vec
	keep := func(list []Vec, ok bool) {
		results = append(results, list)
	}
	keep(impl.FanTidy(f))
	keep(impl.FanOf(f))
	keep(impl.FanLeast(f))
	keep(impl.FanResolve(f))
	keep(impl.FanMove(f, Mat{A: 1, B: 0, C: 0, D: 1}))
	for _, i := range edgeIndexes(f) {
		keep(impl.FanBlow(f, i))
		keep(impl.FanDown(f, i))
		impl.FanCone(f, i)
	}
	impl.FanIn(f)
	impl.FanSmooth(f)
	impl.FanNumbers(f)
	impl.FanKind(f)
	for _, a := range []Vec{{}, {X: 1, Y: 1}, {X: -1000, Y: 3}, {X: math.MinInt, Y: math.MaxInt}} {
		impl.FanWhere(f, a)
	}
	return results
}

// withRoom returns a list with some of its memory behind its end, and all of this memory.
func withRoom(f Fan) (Fan, Fan) {
	all := append(slices.Clone(f), Vec{X: 7, Y: 8}, Vec{X: 9, Y: 10}, Vec{X: 11, Y: 12})
	return all[:len(f)], all
}

func TestFansLeaveTheirArguments(t *testing.T) {
	for _, f := range fansAndNone() {
		list, all := withRoom(f)
		before := slices.Clone(all)
		callAll(list)
		if !slices.Equal(all, before) {
			t.Fatalf("the list %v was changed to %v", before, all)
		}
	}
}

func TestResultsOfFansShareNoMemory(t *testing.T) {
	for _, f := range goodFans() {
		list, all := withRoom(f)
		before := slices.Clone(all)
		results := callAll(list)
		due := callAll(slices.Clone(f))
		for i, result := range results {
			if !slices.Equal(result, due[i]) {
				t.Fatalf("result %d of %v was changed to %v", i, f, result)
			}
			overwrite(result, Vec{X: 9, Y: 9})
		}
		if !slices.Equal(all, before) {
			t.Fatalf("a result shares memory with %v", f)
		}
		if again := callAll(list); !slices.EqualFunc(again, due, slices.Equal[Fan]) {
			t.Fatalf("a result for %v was kept", f)
		}
	}
}

func TestResultsOfFanBuildAndNumbersShareNoMemory(t *testing.T) {
	indexes := []int{0, 2, 4, 5, 6}
	list := indexes[:3]
	first, _ := impl.FanBuild(list)
	due := slices.Clone(first)
	overwrite(first, Vec{X: 9, Y: 9})
	if again, ok := impl.FanBuild(list); !ok || !slices.Equal(again, due) || !slices.Equal(indexes, []int{0, 2, 4, 5, 6}) {
		t.Errorf("FanBuild(%v) returned %v, %v", list, again, ok)
	}
	plain, _ := impl.FanBuild(nil)
	overwrite(plain, Vec{})
	if again, ok := impl.FanBuild(nil); !ok || !slices.Equal(again, planeFan()) {
		t.Errorf("FanBuild of no indexes returned %v, %v", again, ok)
	}
	numbers, _ := impl.FanNumbers(due)
	overwrite(numbers, 9)
	if again, ok := impl.FanNumbers(due); !ok || !slices.Equal(again, []int{-1, -1, -1, -1, -1, -1}) {
		t.Errorf("FanNumbers(%v) returned %v, %v", due, again, ok)
	}
}

// checkNoFan holds against zero values what every function returns for a list that is no fan.
func checkNoFan(t *testing.T, f Fan) {
	t.Helper()
	got, ok := impl.FanTidy(f)
	checkFan(t, "FanTidy", f, nil, got, ok, nil, false)
	got, ok = impl.FanLeast(f)
	checkFan(t, "FanLeast", f, nil, got, ok, nil, false)
	got, ok = impl.FanResolve(f)
	checkFan(t, "FanResolve", f, nil, got, ok, nil, false)
	got, ok = impl.FanMove(f, Mat{A: 1, B: 0, C: 0, D: 1})
	checkFan(t, "FanMove", f, nil, got, ok, nil, false)
	for _, i := range edgeIndexes(f) {
		got, ok = impl.FanBlow(f, i)
		checkFan(t, "FanBlow", f, i, got, ok, nil, false)
		got, ok = impl.FanDown(f, i)
		checkFan(t, "FanDown", f, i, got, ok, nil, false)
		if c, ok := impl.FanCone(f, i); ok || c != (Cone{}) {
			t.Errorf("FanCone(%v, %d) returned %v, %v", f, i, c, ok)
		}
	}
	for _, a := range []Vec{{}, {X: 1, Y: 1}, {X: math.MinInt, Y: math.MaxInt}} {
		if i, ok := impl.FanWhere(f, a); ok || i != 0 {
			t.Errorf("FanWhere(%v, %v) returned %d, %v", f, a, i, ok)
		}
	}
	if k, ok := impl.FanKind(f); ok || k != 0 {
		t.Errorf("FanKind(%v) returned %d, %v", f, k, ok)
	}
	if list, ok := impl.FanNumbers(f); ok || len(list) != 0 {
		t.Errorf("FanNumbers(%v) returned %v, %v", f, list, ok)
	}
	if impl.FanIn(f) || impl.FanSmooth(f) {
		t.Errorf("FanIn(%v) or FanSmooth holds", f)
	}
}

func TestFansThatAreNone(t *testing.T) {
	for _, f := range badFans() {
		checkNoFan(t, f)
	}
	for _, a := range anyVecs() {
		for _, f := range []Fan{{a, a, a}, {a, {X: 0, Y: 1}, {X: -1, Y: -1}}, {{X: 1, Y: 0}, a, {X: -1, Y: -1}}, {{X: 1, Y: 0}, {X: 0, Y: 1}, a}} {
			if !isFan(f) {
				checkNoFan(t, f)
			} else if !impl.FanIn(f) {
				t.Errorf("FanIn(%v) does not hold", f)
			}
		}
	}
}
