package tests

import (
	"math"
	"slices"
	"testing"

	"loop.example/toricfans/impl"
)

func TestFanValues(t *testing.T) {
	if impl.RaysMax != 20 {
		t.Errorf("RaysMax is %d", impl.RaysMax)
	}
	for _, f := range goodFans() {
		if !isFan(f) {
			t.Errorf("%v is listed as a fan", f)
		}
	}
	for _, f := range badFans() {
		if isFan(f) {
			t.Errorf("%v is listed as none", f)
		}
	}
	for _, f := range smoothFans() {
		if !isSmooth(f) {
			t.Errorf("%v is listed as smooth", f)
		}
	}
	for _, f := range doubles() {
		for i := range f {
			if !isCone(coneOf(f, i)) || !differs(f) || rounds(f) < 2 || len(f) > 20 {
				t.Errorf("%v does not lead round more than once", f)
			}
		}
	}
	atLeast(t, len(goodFans()), 1500)
}

// checkFan compares a result with the list that is due if there is one.
func checkFan(t *testing.T, name string, f Fan, with any, got Fan, ok bool, due Fan, valid bool) {
	t.Helper()
	if !valid {
		due = nil
	}
	if ok != valid || !slices.Equal(got, due) {
		t.Errorf("%s(%v, %v) returned %v, %v, not %v, %v", name, f, with, got, ok, due, valid)
	}
}

func TestFanIn(t *testing.T) {
	for _, f := range fansAndNone() {
		if got := impl.FanIn(f); got != isFan(f) {
			t.Errorf("FanIn(%v) returned %v", f, got)
		}
		if got := impl.FanSmooth(f); got != isSmooth(f) {
			t.Errorf("FanSmooth(%v) returned %v", f, got)
		}
	}
}

// TestFanInOfAllLists goes through all lists of few small rays, in every order.
func TestFanInOfAllLists(t *testing.T) {
	rays := append(primitives(1), Vec{}, Vec{X: 2, Y: 1}, Vec{X: -1, Y: 2})
	times := 0
	var extend func(f Fan)
	extend = func(f Fan) {
		due := isFan(f)
		if due {
			times++
		}
		if impl.FanIn(f) != due || impl.FanSmooth(f) != isSmooth(f) {
			t.Errorf("FanIn(%v) returned %v", f, !due)
		}
		for _, a := range rays {
			if len(f) < 5 {
				extend(append(slices.Clone(f), a))
			}
		}
	}
	extend(nil)
	atLeast(t, times, 500)
}

func TestFanInOfManyRays(t *testing.T) {
	for rays := 3; rays <= 40; rays++ {
		f := roundFan(6, rays)
		if got := impl.FanIn(f); got != (rays <= 20) {
			t.Errorf("FanIn of %d rays returned %v", rays, got)
		}
		if got, ok := impl.FanOf(f); ok != (rays <= 20) || ok && !slices.Equal(got, f) {
			t.Errorf("FanOf of %d rays returned %v, %v", rays, got, ok)
		}
		if rays <= 30 && impl.FanSmooth(longFan(rays, 5)) != (rays <= 20) {
			t.Errorf("FanSmooth of %d rays does not return %v", rays, rays <= 20)
		}
	}
}

func TestFanInFromAnyRay(t *testing.T) {
	for _, f := range goodFans() {
		for _, g := range allTurns(f) {
			if !impl.FanIn(g) || impl.FanSmooth(g) != isSmooth(f) {
				t.Errorf("FanIn(%v) does not hold, or FanSmooth is another one", g)
			}
		}
	}
}

func TestFanTidy(t *testing.T) {
	for _, f := range fansAndNone() {
		got, ok := impl.FanTidy(f)
		checkFan(t, "FanTidy", f, nil, got, ok, sortedFan(f), isFan(f))
	}
}

func TestFanTidyOfSome(t *testing.T) {
	cases := []struct{ f, due Fan }{
		{fan(1, 0, 0, 1, -1, -1), fan(1, 0, 0, 1, -1, -1)},
		{fan(-1, -1, 1, 0, 0, 1), fan(1, 0, 0, 1, -1, -1)},
		{fan(0, 1, -1, -1, 1, 0), fan(1, 0, 0, 1, -1, -1)},
		{fan(1, -1, 0, 1, -1, 0), fan(0, 1, -1, 0, 1, -1)},
		{fan(-1, 0, 1, -1, 0, 1), fan(0, 1, -1, 0, 1, -1)},
		{fan(0, -1, 1, 0, 0, 1, -1, 1), fan(1, 0, 0, 1, -1, 1, 0, -1)},
		{fan(1000, -1, 1000, 1, -1, 0), fan(1000, 1, -1, 0, 1000, -1)},
		{fan(999, -1, 1000, -1, 1, 1, -1, 0), fan(1, 1, -1, 0, 999, -1, 1000, -1)},
		{fan(999, 1, -1, 0, 1, -1, 1000, 1), fan(1000, 1, 999, 1, -1, 0, 1, -1)},
	}
	for _, c := range cases {
		got, ok := impl.FanTidy(c.f)
		checkFan(t, "FanTidy", c.f, nil, got, ok, c.due, true)
		checkFan(t, "the order of", c.f, nil, sortedFan(c.f), true, c.due, true)
	}
}

// fanOfAny returns the vectors of a list by their angles, each one once.
func fanOfAny(list []Vec) Fan {
	var f Fan
	for _, a := range list {
		if !slices.Contains(f, a) {
			f = append(f, a)
		}
	}
	return sortedFan(f)
}

func checkFanOf(t *testing.T, list []Vec) {
	t.Helper()
	due := fanOfAny(list)
	valid := isFan(due)
	for _, a := range list {
		valid = valid && isPrimitive(a)
	}
	got, ok := impl.FanOf(list)
	checkFan(t, "FanOf", list, nil, got, ok, due, valid)
}

// mixed returns a list in another order that the step tells.
func mixed(list []Vec, step int) []Vec {
	var other []Vec
	for i := range list {
		other = append(other, list[i*step%len(list)])
	}
	return other
}

func TestFanOf(t *testing.T) {
	for _, f := range fansAndNone() {
		if len(f) > 100 {
			continue
		}
		checkFanOf(t, f)
		checkFanOf(t, reversedFan(f))
		checkFanOf(t, slices.Concat(f, reversedFan(f), f))
		if len(f) > 0 {
			checkFanOf(t, append(slices.Clone(f), f[0]))
			checkFanOf(t, mixed(slices.Concat(f, f), 2))
			checkFanOf(t, append(slices.Clone(f), Vec{}))
		}
	}
}

// TestFanOfAllLists takes some of a few vectors, most of which do not go round.
func TestFanOfAllLists(t *testing.T) {
	rays := []Vec{{X: 1, Y: 0}, {X: 2, Y: 1}, {X: 0, Y: 1}, {X: -1, Y: 1}, {X: -1, Y: 0}, {X: -1, Y: -1}, {X: 0, Y: -1}, {X: 1, Y: -2}, {X: 3, Y: -1}, {X: 2, Y: 2}}
	for n := range 1 << len(rays) {
		var list []Vec
		for i, a := range rays {
			if n>>i&1 == 1 {
				list = append(list, a)
			}
		}
		checkFanOf(t, list)
		if len(list)%7 != 0 {
			checkFanOf(t, mixed(list, 7))
		}
	}
}

func TestFanOfSome(t *testing.T) {
	cases := []struct {
		list []Vec
		due  Fan
	}{
		{fan(-1, -1, 0, 1, 1, 0), planeFan()},
		{fan(-1, -1, 0, 1, -1, -1, 1, 0, 0, 1, 0, 1), planeFan()},
		{fan(0, -1, -1, 0, 0, 1, 1, 0), kindFan(0)},
		{fan(1000, -1, 999, -1, -1, 0, 1, 1), fan(1, 1, -1, 0, 999, -1, 1000, -1)},
		{nil, nil},
		{[]Vec{}, nil},
		{fan(1, 0), nil},
		{fan(1, 0, 1, 0, 1, 0), nil},
		{fan(1, 0, 0, 1, 1, 0, 0, 1), nil},
		{fan(1, 0, -1, 0, 1, 0, -1, 0), nil},
		{fan(1, 0, 0, 1, -1, 0), nil},
		{fan(1, 0, 0, 1, -1, 1, 1, 1), nil},
		{fan(1, 0, 0, 1, -1, -1, 2, 2), nil},
		{fan(1, 0, 0, 1, -1, -1, 0, 0), nil},
		{fan(2, 0, 0, 1, -1, -1, 1, 0), nil},
		{fan(1, 0, 0, 1, -1, -1, 1001, 1), nil},
		{fan(1, 0, 0, 1, -1, -1, 1, math.MinInt), nil},
		{fan(1, 0, 0, 1, -1, -1, math.MaxInt, 1), nil},
	}
	for _, c := range cases {
		got, ok := impl.FanOf(c.list)
		checkFan(t, "FanOf", c.list, nil, got, ok, c.due, c.due != nil)
	}
}

func TestFanOfManyVectors(t *testing.T) {
	for _, f := range []Fan{planeFan(), longFan(20, 5), roundFan(4, 20), wheel(20), fan(1, -1000, 1, 1000, -1, 0)} {
		many := mixed(slices.Repeat(f, 1009), 10007)
		got, ok := impl.FanOf(many)
		checkFan(t, "FanOf", f, "many times", got, ok, sortedFan(f), true)
		got, ok = impl.FanOf(append(many, Vec{}))
		checkFan(t, "FanOf", f, "and 0", got, ok, nil, false)
		got, ok = impl.FanOf(append(many, Vec{X: 2, Y: -4}))
		checkFan(t, "FanOf", f, "and one that is not primitive", got, ok, nil, false)
	}
	for _, list := range [][]Vec{primitives(60), roundFan(4, 21), slices.Repeat(roundFan(4, 21), 100), slices.Repeat(fan(1, 0, 0, 1), 5000)} {
		got, ok := impl.FanOf(list)
		checkFan(t, "FanOf", list[:2], "and more", got, ok, nil, false)
	}
}

func TestFanCone(t *testing.T) {
	for _, f := range fansAndNone() {
		for _, i := range edgeIndexes(f) {
			due := Cone{}
			valid := isFan(f) && i >= 0 && i < len(f)
			if valid {
				due = coneOf(f, i)
			}
			if got, ok := impl.FanCone(f, i); ok != valid || got != due {
				t.Errorf("FanCone(%v, %d) returned %v, %v", f, i, got, ok)
			}
		}
	}
}

func TestFanConeOfTheLastRay(t *testing.T) {
	for _, f := range allTurns(planeFan()) {
		if got, ok := impl.FanCone(f, 2); !ok || got != (Cone{U: f[2], V: f[0]}) {
			t.Errorf("FanCone(%v, 2) returned %v, %v", f, got, ok)
		}
	}
}

// whereOf returns the first index of a cone of a fan that has a vector.
func whereOf(f Fan, a Vec) int {
	for i := range f {
		if inCone(coneOf(f, i), a) {
			return i
		}
	}
	return -1
}

func TestFanWhere(t *testing.T) {
	some := append(badVecs(), goodVecs()...)
	for i, f := range fansAndNone() {
		list := slices.Concat(f, some[:8+i%len(some)])
		for _, a := range list {
			due := 0
			valid := isFan(f) && isVec(a)
			if valid {
				due = whereOf(f, a)
			}
			if got, ok := impl.FanWhere(f, a); ok != valid || got != due {
				t.Errorf("FanWhere(%v, %v) returned %d, %v, not %d, %v", f, a, got, ok, due, valid)
			}
		}
	}
}

// TestFanWhereAtTheRays looks for 0, each ray and the sum of both rays of each cone.
func TestFanWhereAtTheRays(t *testing.T) {
	for _, f := range goodFans() {
		if got, ok := impl.FanWhere(f, Vec{}); !ok || got != 0 {
			t.Errorf("FanWhere(%v, 0) returned %d, %v", f, got, ok)
		}
		for i, a := range f {
			if got, ok := impl.FanWhere(f, a); !ok || got != max(i-1, 0) {
				t.Errorf("FanWhere(%v, %v) returned %d, %v", f, a, got, ok)
			}
			b := nextOf(f, i)
			sum := Vec{X: a.X + b.X, Y: a.Y + b.Y}
			if got, ok := impl.FanWhere(f, sum); ok != isVec(sum) || ok && got != i || !ok && got != 0 {
				t.Errorf("FanWhere(%v, %v) returned %d, %v", f, sum, got, ok)
			}
		}
	}
}

func TestFanWhereOfSome(t *testing.T) {
	cases := []struct {
		f   Fan
		a   Vec
		due int
		ok  bool
	}{
		{planeFan(), Vec{X: 3, Y: 2}, 0, true},
		{planeFan(), Vec{X: -1, Y: 0}, 1, true},
		{planeFan(), Vec{X: 0, Y: -1}, 2, true},
		{planeFan(), Vec{X: 1000, Y: 0}, 0, true},
		{planeFan(), Vec{X: 0, Y: 1000}, 0, true},
		{planeFan(), Vec{X: -1000, Y: -1000}, 1, true},
		{fan(0, 1, -1, -1, 1, 0), Vec{X: 0, Y: 5}, 0, true},
		{fan(0, 1, -1, -1, 1, 0), Vec{X: 5, Y: 0}, 1, true},
		{fan(0, 1, -1, -1, 1, 0), Vec{X: 1, Y: 1}, 2, true},
		{planeFan(), Vec{X: 1001, Y: 0}, 0, false},
		{planeFan(), Vec{X: 0, Y: math.MinInt}, 0, false},
		{reversedFan(planeFan()), Vec{X: 1, Y: 1}, 0, false},
		{nil, Vec{}, 0, false},
	}
	for _, c := range cases {
		if got, ok := impl.FanWhere(c.f, c.a); ok != c.ok || got != c.due {
			t.Errorf("FanWhere(%v, %v) returned %d, %v", c.f, c.a, got, ok)
		}
	}
}
