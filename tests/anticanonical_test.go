package tests

import (
	"math"
	"slices"
	"testing"

	"loop.example/toricfans/impl"
)

func checkOfFan(t *testing.T, f Fan) bool {
	t.Helper()
	due, valid := anticanonicalOf(f)
	got, ok := impl.ReflexiveOfFan(f)
	checkFan(t, "ReflexiveOfFan", f, nil, got, ok, due, valid)
	return valid
}

// resultOfFan tells the kinds of anticanonical polygons, and why there is none, apart.
func resultOfFan(f Fan) string {
	d := filled(len(f), 1)
	if !isSmooth(f) {
		return "not smooth"
	}
	if !limitsOf(f, d).areTold() {
		return "no sections told"
	}
	sections := sectionsOf(f, d)
	p := hullOf(sections)
	switch {
	case len(sections) == 1:
		return "only 0"
	case len(p) == 2:
		return "on one line"
	case len(sections) > 60:
		return "too many"
	case sizeOf(p) > 100:
		return "too great"
	case isConvex(f):
		return "convex"
	default:
		return "not convex"
	}
}

func TestReflexiveOfFan(t *testing.T) {
	results := map[string]int{}
	for _, f := range fansAround() {
		result := resultOfFan(f)
		results[result]++
		if told := checkOfFan(t, f); told != (result == "convex" || result == "not convex") {
			t.Errorf("the anticanonical polygon of %v is not as told: %s", f, result)
		}
	}
	for _, result := range []string{"not smooth", "no sections told", "only 0", "on one line", "too many", "too great", "convex", "not convex"} {
		atLeast(t, results[result], 10)
	}
}

// TestReflexiveOfFanOfMovedKinds has the dual of each kind as the anticanonical polygon of the fan of its edge vectors, moved and from any ray on.
func TestReflexiveOfFanOfMovedKinds(t *testing.T) {
	times := 0
	for i, k := range movedKinds() {
		due, ok := dualOf(k.p)
		f := turnedTo(sortedFan(edgesOf(k.p)), i%len(edgesOf(k.p)))
		if !ok || !limitsOf(f, filled(len(f), 1)).areTold() {
			continue
		}
		times++
		got, told := impl.ReflexiveOfFan(f)
		checkFan(t, "ReflexiveOfFan", f, nil, got, told, due, true)
	}
	atLeast(t, times, 1500)
}

// TestReflexiveOfFanAtTheLimitOfSections has 60 sections and 61: the fan with the number k has k and 6 of them.
func TestReflexiveOfFanAtTheLimitOfSections(t *testing.T) {
	for k := 3; k <= 110; k++ {
		for i := range 4 {
			f := turnedTo(kindFan(k), i)
			if n := len(sectionsOf(f, filled(4, 1))); n != k+6 {
				t.Errorf("%v has %d sections", f, n)
			}
			due := fan(-1, 0, 1, 0, k+1, 1, -1, 1)
			got, ok := impl.ReflexiveOfFan(f)
			checkFan(t, "ReflexiveOfFan", f, nil, got, ok, due, k <= 54)
		}
	}
}

// TestReflexiveOfFanAtTheLimitOfPolygons has corners with 100 and with 101, of few sections.
func TestReflexiveOfFanAtTheLimitOfPolygons(t *testing.T) {
	for k := 2; k <= 1000; k++ {
		f := fan(1, 0, k, 1, -1, 0, -k, -1)
		due := fan(-1, k-1, 1, -k-1, 1, -k+1, -1, k+1)
		got, ok := impl.ReflexiveOfFan(f)
		checkFan(t, "ReflexiveOfFan", f, nil, got, ok, due, k <= 99)
		over := reversedFan(fan(0, 1, 1, k, 0, -1, -1, -k))
		got, ok = impl.ReflexiveOfFan(over)
		checkFan(t, "ReflexiveOfFan", over, nil, got, ok, exchanged(due), k <= 99)
	}
}

// TestReflexiveOfFanWithoutSections has fans of which the box has too many vectors, and fans with a bound that is too great: SectionList fails, however few sections there are.
func TestReflexiveOfFanWithoutSections(t *testing.T) {
	few := 0
	for _, f := range append(convexFans(), surfaces()...) {
		d := filled(len(f), 1)
		if limitsOf(f, d).areTold() {
			continue
		}
		if _, ok := impl.SectionList(f, d); ok {
			t.Errorf("SectionList(%v, %v) succeeds", f, d)
		}
		if len(sectionsOf(f, d)) <= 60 {
			few++
		}
		got, ok := impl.ReflexiveOfFan(f)
		checkFan(t, "ReflexiveOfFan", f, nil, got, ok, nil, false)
	}
	atLeast(t, few, 30)
}

func TestReflexiveOfFanOfSome(t *testing.T) {
	nine := fan(1, 0, 0, 1, -1, 2, -1, 1, -1, 0, -1, -1, 0, -1, 1, -1, 2, -1)
	cases := []struct {
		f   Fan
		due Polygon
	}{
		{planeFan(), fan(-1, -1, 2, -1, -1, 2)},
		{turnedTo(planeFan(), 1), fan(-1, -1, 2, -1, -1, 2)},
		{kindFan(0), squareOf(1)},
		{kindFan(1), fan(-1, -1, 0, -1, 2, 1, -1, 1)},
		{kindFan(2), fan(-1, -1, 3, 1, -1, 1)},
		{kindFan(3), fan(-1, 0, 1, 0, 4, 1, -1, 1)},
		{kindFan(54), fan(-1, 0, 1, 0, 55, 1, -1, 1)},
		{kindFan(55), nil},
		{kindFan(1000), nil},
		{fan(1, 0, 1, 1, 0, 1, -1, 0, -1, -1, 0, -1), fan(-1, 0, 0, -1, 1, -1, 1, 0, 0, 1, -1, 1)},
		{nine, fan(-1, -1, 1, 0, 0, 1)},
		{blownUp(nine, 0), fan(0, 0, 1, 0, 0, 1)},
		{blownUp(blownUp(nine, 0), 0), fan(0, 0, 1, 0, 0, 1)},
		{fan(1, 0, 1, 1, 1, 2, 0, 1, -1, 0, -1, -1, 0, -1), fan(-1, 0, 1, -1, 1, 0, 0, 1, -1, 1)},
		{longFan(20, 3), fan(0, 0, 1, -1, 1, 0)},
		{longFan(21, 5), nil},
		{fan(0, -1, 1, -2, 1, -1, 1, 0, 1, 1, 1, 2, 0, 1, -1, 1, -1, 0, -1, -1), nil},
		{fan(1, 0, 3, 1, 2, 1, 1, 1, 0, 1, -1, 2, -1, 1, -1, 0, -1, -1, -1, -2, 0, -1), nil},
		{evenFan(), nil},
		{fan(1000, 999, -999, -998, -1, -1), nil},
		{fan(1, 0, 0, 1, -1, -2), nil},
		{fan(2, 1, -1, 1, -1, -2), nil},
		{reversedFan(planeFan()), nil},
		{slices.Repeat(planeFan(), 2), nil},
		{fan(1, 0, 0, 1), nil},
		{fan(1, 0, 0, 1, math.MinInt, math.MaxInt), nil},
		{nil, nil},
	}
	for _, c := range cases {
		if due, ok := anticanonicalOf(c.f); ok != (c.due != nil) || ok && !slices.Equal(due, c.due) {
			t.Errorf("the anticanonical polygon of %v is not as listed: %v", c.f, due)
		}
		got, ok := impl.ReflexiveOfFan(c.f)
		checkFan(t, "ReflexiveOfFan", c.f, nil, got, ok, c.due, c.due != nil)
	}
}
