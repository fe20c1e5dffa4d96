package tests

import (
	"math"
	"slices"
	"testing"

	"loop.example/toricfans/impl"
)

// These tests hold the functions of chapter 3 against each other, promise by promise, as those of the chapters 1 and 2 do.

func fanTidy(t *testing.T, f Fan) Fan {
	t.Helper()
	g, ok := impl.FanTidy(f)
	if !ok {
		t.Errorf("FanTidy(%v) failed", f)
	}
	return g
}

func fanCone(t *testing.T, f Fan, i int) Cone {
	t.Helper()
	c, ok := impl.FanCone(f, i)
	if !ok {
		t.Errorf("FanCone(%v, %d) failed", f, i)
	}
	return c
}

func TestPromise25(t *testing.T) {
	times := 0
	for _, f := range fansAndNone() {
		if !impl.FanIn(f) {
			continue
		}
		times++
		behind := turnedTo(f, 1)
		if !impl.FanIn(behind) || !slices.Equal(fanTidy(t, behind), fanTidy(t, f)) {
			t.Errorf("FanIn(%v) does not hold with the first ray put behind, or FanTidy is another one", f)
		}
	}
	atLeast(t, times, len(goodFans()))
}

func TestPromise26(t *testing.T) {
	times := 0
	for _, f := range fansAndNone() {
		g, ok := impl.FanTidy(f)
		if !ok {
			continue
		}
		times++
		for i := range len(g) - 1 {
			if !impl.VecAhead(g[i], g[i+1]) {
				t.Errorf("FanTidy(%v) returned %v", f, g)
			}
		}
		of, ok := impl.FanOf(f)
		checkFan(t, "FanOf", f, nil, of, ok, g, true)
		of, ok = impl.FanOf(g)
		checkFan(t, "FanOf", g, nil, of, ok, g, true)
	}
	atLeast(t, times, len(goodFans()))
}

func TestPromise27(t *testing.T) {
	times := 0
	for i, f := range append(fansAndNone(), primitives(1), primitives(2), primitives(5)) {
		list := slices.Concat(f, f[:min(i%4, len(f))])
		got, ok := impl.FanOf(list)
		other, fine := impl.FanOf(reversedFan(list))
		if ok != fine || !slices.Equal(got, other) {
			t.Errorf("FanOf(%v) returned %v and in the opposite order %v", list, got, other)
		}
		if !ok {
			continue
		}
		times++
		if !impl.FanIn(got) || !slices.Equal(fanTidy(t, got), got) {
			t.Errorf("FanOf(%v) returned %v", list, got)
		}
	}
	atLeast(t, times, len(goodFans()))
}

func TestPromise28(t *testing.T) {
	times := 0
	for _, f := range fansAndNone() {
		if !impl.FanSmooth(f) {
			continue
		}
		times++
		got, ok := impl.FanResolve(f)
		checkFan(t, "FanResolve", f, nil, got, ok, f, true)
		for i := range f {
			if coneIndex(t, fanCone(t, f, i)) != 1 {
				t.Errorf("the cone %d of %v has another index than 1", i, f)
			}
		}
	}
	atLeast(t, times, len(smoothFans()))
}

func TestPromise29(t *testing.T) {
	times, told := 0, 0
	for _, f := range fansAndNone() {
		for _, i := range edgeIndexes(f) {
			c, ok := impl.FanCone(f, i)
			if !ok {
				continue
			}
			times++
			if !impl.ConeIn(c) || c.U != f[i] {
				t.Errorf("FanCone(%v, %d) returned %v", f, i, c)
			}
			sum, ok := impl.VecAdd(c.U, c.V)
			if !ok {
				continue
			}
			told++
			if got, ok := impl.FanWhere(f, sum); !ok || got != i {
				t.Errorf("FanWhere(%v, %v) returned %d, %v, not %d", f, sum, got, ok, i)
			}
		}
	}
	atLeast(t, times, 3*len(goodFans()))
	atLeast(t, told, 3*len(goodFans()))
}

func TestPromise30(t *testing.T) {
	times, told := 0, 0
	some := append(badVecs(), goodVecs()...)
	for i, f := range fansAndNone() {
		for k := i % 5; k < len(some); k += 5 {
			a := some[k]
			where, ok := impl.FanWhere(f, a)
			if !ok {
				continue
			}
			times++
			if !impl.ConeHas(fanCone(t, f, where), a) {
				t.Errorf("the cone %d of %v does not have %v", where, f, a)
			}
			twice, ok := impl.VecTimes(a, 2)
			if !ok {
				continue
			}
			told++
			if again, ok := impl.FanWhere(f, twice); !ok || again != where {
				t.Errorf("FanWhere(%v, %v) returned %d, %v, not %d", f, twice, again, ok, where)
			}
		}
	}
	atLeast(t, times, 20*len(goodFans()))
	atLeast(t, told, 20*len(goodFans()))
}

// The cone that is left where the ray was has the ray ahead of it as U: for the first ray, the last one that is left.
func TestPromise31(t *testing.T) {
	times := 0
	for _, f := range fansAndNone() {
		for _, i := range edgeIndexes(f) {
			g, ok := impl.FanDown(f, i)
			if !ok {
				continue
			}
			times++
			if !impl.FanSmooth(g) || len(g) != len(f)-1 || slices.Contains(g, f[i]) {
				t.Errorf("FanDown(%v, %d) returned %v", f, i, g)
			}
			there := (i + len(g) - 1) % len(g)
			back, ok := impl.FanBlow(g, there)
			if !ok || !slices.Equal(fanTidy(t, back), fanTidy(t, f)) {
				t.Errorf("FanBlow(%v, %d) returned %v, %v, not %v", g, there, back, ok, f)
			}
		}
	}
	atLeast(t, times, 500)
}

func TestPromise32(t *testing.T) {
	times := 0
	for _, f := range fansAndNone() {
		g, ok := impl.FanLeast(f)
		if !ok {
			continue
		}
		times++
		if !impl.FanSmooth(g) || len(g) != 3 && len(g) != 4 || len(g) > len(f) || !slices.Equal(fanTidy(t, g), g) {
			t.Errorf("FanLeast(%v) returned %v", f, g)
		}
		if k, ok := impl.FanKind(g); !ok || k == 1 {
			t.Errorf("FanKind(%v) returned %d, %v", g, k, ok)
		}
	}
	atLeast(t, times, len(smoothFans()))
}

func TestPromise33(t *testing.T) {
	times := 0
	for _, f := range append(fansAndNone(), steepFan(17), steepFan(18), turnedTo(steepFan(17), 3)) {
		g, ok := impl.FanResolve(f)
		if !ok {
			continue
		}
		times++
		if !impl.FanSmooth(g) {
			t.Errorf("FanResolve(%v) returned %v", f, g)
		}
		for _, a := range f {
			if !slices.Contains(g, a) {
				t.Errorf("FanResolve(%v) returned %v, without %v", f, g, a)
			}
		}
	}
	atLeast(t, times, len(smoothFans())+500)
}

func TestPromise34(t *testing.T) {
	times := 0
	mats := append(goodMats(), badMats()...)
	for i, f := range fansAndNone() {
		for k := i % 4; k < len(mats); k += 4 {
			g, ok := impl.FanMove(f, mats[k])
			if !ok {
				continue
			}
			times++
			if impl.FanSmooth(g) != impl.FanSmooth(f) || !slices.Equal(fanTidy(t, g), g) {
				t.Errorf("FanMove(%v, %v) returned %v", f, mats[k], g)
			}
			back, ok := impl.FanMove(g, matTurned(t, mats[k]))
			checkFan(t, "FanMove", g, matTurned(t, mats[k]), back, ok, fanTidy(t, f), true)
		}
	}
	atLeast(t, times, 10000)
}

func TestPromise35(t *testing.T) {
	times := 0
	for _, list := range slices.Concat(builds(), longBuilds(), [][]int{{-1}, {3}, {math.MinInt}, {0, math.MaxInt}}) {
		f, ok := impl.FanBuild(list)
		if !ok {
			continue
		}
		times++
		if !impl.FanSmooth(f) || len(f) != len(list)+3 || !slices.Equal(fanTidy(t, f), f) {
			t.Errorf("FanBuild(%v) returned %v", list, f)
		}
		if least, ok := impl.FanLeast(f); !ok || len(least) > 4 {
			t.Errorf("FanLeast(%v) returned %v, %v", f, least, ok)
		}
	}
	atLeast(t, times, 400)
}
