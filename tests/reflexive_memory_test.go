package tests

import (
	"slices"
	"testing"

	"loop.example/toricfans/impl"
)

// callReflexives calls every function of the chapter with one list, and returns all lists that result, numbers as vectors.
func callReflexives(list []Vec) [][]Vec {
	var results [][]Vec
	keep := func(result []Vec, ok bool) {
		results = append(results, result)
	}
	keep(impl.ReflexiveDual(list))
	keep(impl.ReflexiveFan(list))
	keep(impl.ReflexiveOfFan(list))
	impl.ReflexiveIn(list)
	impl.ReflexiveTwelve(list)
	impl.FanConvex(list)
	impl.ReflexiveNumbers(list)
	return results
}

func TestReflexivesLeaveTheirArguments(t *testing.T) {
	for _, f := range slices.Concat(reflexivesAndOthers(), fansAround()) {
		list, all := withRoom(f)
		before := slices.Clone(all)
		callReflexives(list)
		if !slices.Equal(all, before) {
			t.Fatalf("the list %v was changed to %v", before, all)
		}
	}
}

func TestResultsOfReflexivesShareNoMemory(t *testing.T) {
	lists := 0
	for _, f := range slices.Concat(reflexives(), convexFans(), surfaces(), goodFans()) {
		list, all := withRoom(f)
		before := slices.Clone(all)
		due := callReflexives(slices.Clone(f))
		for i, result := range callReflexives(list) {
			if !slices.Equal(result, due[i]) {
				t.Fatalf("result %d of %v was changed to %v", i, f, result)
			}
			lists += min(1, len(result))
			overwrite(result[:cap(result)], Vec{X: 12345, Y: 6})
		}
		if !slices.Equal(all, before) {
			t.Fatalf("a result shares memory with %v", f)
		}
		if again := callReflexives(list); !slices.EqualFunc(again, due, slices.Equal[[]Vec]) {
			t.Fatalf("a result for %v was kept", f)
		}
	}
	atLeast(t, lists, 5000)
}

func TestResultsOfReflexiveNumbersShareNoMemory(t *testing.T) {
	for _, p := range reflexives() {
		due, _ := impl.ReflexiveNumbers(slices.Clone(p))
		due = slices.Clone(due)
		first, _ := impl.ReflexiveNumbers(p)
		wipe(first)
		if again, ok := impl.ReflexiveNumbers(p); !ok || !slices.Equal(again, due) {
			t.Fatalf("ReflexiveNumbers(%v) returned %v, %v, not %v", p, again, ok, due)
		}
	}
}

// checkNoReflexive holds against zero values what the functions of polygons return for a list that is not reflexive.
func checkNoReflexive(t *testing.T, p Polygon) {
	t.Helper()
	checkReflexiveIn(t, p, false)
	got, ok := impl.ReflexiveDual(p)
	checkFan(t, "ReflexiveDual", p, nil, got, ok, nil, false)
	checkTwelve(t, p, [2]int{}, false)
	got, ok = impl.ReflexiveFan(p)
	checkFan(t, "ReflexiveFan", p, nil, got, ok, nil, false)
	checkReflexiveNumbers(t, p, nil, false)
}

// checkNotSmooth holds against zero values what the functions of fans return for a list that is no smooth fan.
func checkNotSmooth(t *testing.T, f Fan) {
	t.Helper()
	checkConvex(t, f, false)
	got, ok := impl.ReflexiveOfFan(f)
	checkFan(t, "ReflexiveOfFan", f, nil, got, ok, nil, false)
}

func TestListsThatAreNotReflexive(t *testing.T) {
	for _, p := range slices.Concat(badPolygons(), aroundZero(), besideZero(), nearlyReflexive()) {
		checkNoReflexive(t, p)
	}
	for _, f := range unsmoothLists() {
		checkNotSmooth(t, f)
	}
}

// TestReflexivesOfAnyNumbers puts every vector of edge numbers at every place.
func TestReflexivesOfAnyNumbers(t *testing.T) {
	none := 0
	kinds := reflexiveKinds()
	lists := []Polygon{kinds[0].p, kinds[7].p, squareOf(1), kinds[12].p, kindFan(0), kinds[9].p}
	for _, a := range anyVecs() {
		for _, p := range append(lists, []Vec{a, a, a}) {
			for i := range p {
				q := withRay(p, i, a)
				checkReflexiveIn(t, q, isReflexive(q))
				checkDual(t, q)
				checkEdgeFan(t, q)
				checkConvex(t, q, isConvex(q))
				if !isPolygon(q) {
					none++
					checkNoReflexive(t, q)
				}
				if !isSmooth(q) {
					checkNotSmooth(t, q)
				} else {
					checkOfFan(t, q)
				}
			}
		}
	}
	atLeast(t, none, 5000)
}
