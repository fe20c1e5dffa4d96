package tests

import (
	"math"
	"runtime"
	"slices"
	"sync"
	"testing"
	"time"

	"loop.example/toricfans/impl"
)

// callSections calls every function of the chapter, and returns all lists that result.
func callSections(f Fan, d Divisor) [][]Vec {
	sections, _ := impl.SectionList(f, d)
	corners, _ := impl.SectionCorners(f, d)
	impl.SectionBox(f, d)
	impl.SectionCount(f, d)
	impl.SectionInner(f, d)
	impl.SectionArea(f, d)
	for _, i := range []int{0, 1, len(f) - 1, len(f), -1, math.MinInt, math.MaxInt} {
		impl.SectionOn(f, d, i)
	}
	for _, m := range []Vec{{}, {X: 1, Y: -1}, {X: 1000, Y: 1000}, {X: math.MinInt, Y: math.MaxInt}} {
		impl.SectionHas(f, d, m)
	}
	return [][]Vec{sections, corners}
}

func TestSectionsLeaveTheirArguments(t *testing.T) {
	for _, f := range divisorFansAndNone() {
		rays, allRays := withRoom(f)
		raysBefore := slices.Clone(allRays)
		for i, d := range divisorsAndNone(f) {
			if i%17 != len(f)%17 {
				continue
			}
			list, all := numbersWithRoom(d)
			before := slices.Clone(all)
			callSections(rays, list)
			if !slices.Equal(all, before) || !slices.Equal(allRays, raysBefore) {
				t.Fatalf("%v or %v was changed", f, d)
			}
		}
	}
}

func TestResultsOfSectionsShareNoMemory(t *testing.T) {
	lists := 0
	for _, f := range divisorFans() {
		rays, allRays := withRoom(f)
		raysBefore := slices.Clone(allRays)
		for _, d := range append(nefDivisors(f)[:3], filled(len(f), 0), filled(len(f), 1), filled(len(f), -1)) {
			list, all := numbersWithRoom(d)
			before := slices.Clone(all)
			due := callSections(slices.Clone(f), slices.Clone(d))
			results := callSections(rays, list)
			for i, result := range results {
				if !slices.Equal(result, due[i]) {
					t.Fatalf("result %d of %v of %v was changed", i, d, f)
				}
				lists += min(1, len(result))
				overwrite(result[:cap(result)], Vec{X: 12345, Y: 6})
			}
			if !slices.Equal(all, before) || !slices.Equal(allRays, raysBefore) {
				t.Fatalf("a result shares memory with %v or %v", f, d)
			}
			if again := callSections(rays, list); !slices.EqualFunc(again, due, slices.Equal[[]Vec]) {
				t.Fatalf("a result for %v of %v was kept", d, f)
			}
		}
	}
	atLeast(t, lists, 500)
}

// checkNoSections holds against zero values what every function returns for a list that is no divisor, or for any list where there is no smooth fan.
func checkNoSections(t *testing.T, f Fan, d Divisor) {
	t.Helper()
	checkBox(t, f, d, limits{}, false)
	checkHas(t, f, d, Vec{}, false)
	list, ok := impl.SectionList(f, d)
	checkList(t, f, d, list, ok, nil, false)
	n, ok := impl.SectionCount(f, d)
	checkNumber(t, "SectionCount", f, d, nil, n, ok, 0, false)
	n, ok = impl.SectionInner(f, d)
	checkNumber(t, "SectionInner", f, d, nil, n, ok, 0, false)
	for _, i := range []int{0, 1, 2, len(f) - 1, len(f), -1, math.MinInt, math.MaxInt} {
		checkOn(t, f, d, i, 0, false)
	}
	corners, ok := impl.SectionCorners(f, d)
	checkFan(t, "SectionCorners", f, d, corners, ok, nil, false)
	n, ok = impl.SectionArea(f, d)
	checkNumber(t, "SectionArea", f, d, nil, n, ok, 0, false)
}

func TestSectionsWithoutDivisors(t *testing.T) {
	for _, f := range divisorFans() {
		for _, d := range badDivisors(f) {
			checkNoSections(t, f, d)
		}
	}
}

func TestSectionsWithoutSmoothFans(t *testing.T) {
	for _, f := range unsmoothLists() {
		for i, d := range divisorsAndNone(f) {
			if len(f) < 100 || i%100 == 0 {
				checkNoSections(t, f, d)
			}
		}
	}
}

// TestSectionsOfAnyNumbers puts every edge number at every place.
func TestSectionsOfAnyNumbers(t *testing.T) {
	f := turnedTo(kindFan(3), 1)
	for _, n := range edgeNumbers() {
		for _, k := range edgeNumbers() {
			for i := range f {
				d := with(unit(4, i, n), (i+1)%4, k)
				if hasCoefs(f, d) {
					checkSections(t, f, d, sectionsOf(f, d), limitsOf(f, d).areTold())
				} else {
					checkNoSections(t, f, d)
				}
			}
			g := withRay(f, 2, Vec{X: n, Y: k})
			if !isSmooth(g) {
				checkNoSections(t, g, filled(4, 1))
			}
		}
	}
}

// withRay returns a list with another ray at an index.
func withRay(f Fan, i int, a Vec) Fan {
	f = slices.Clone(f)
	f[i] = a
	return f
}

// TestSectionsLeaveNothingRunning waits for what has told that it is done, and still needs a moment to end.
func TestSectionsLeaveNothingRunning(t *testing.T) {
	before := runtime.NumGoroutine()
	for _, f := range []Fan{planeFan(), kindFan(10), kindFan(1000), evenFan()} {
		for _, d := range append(nefDivisors(f), filled(len(f), 33), filled(len(f), -100), filled(len(f), 100)) {
			callSections(f, d)
		}
	}
	for range 1000 {
		if runtime.NumGoroutine() <= before {
			return
		}
		time.Sleep(time.Millisecond)
	}
	t.Errorf("%d goroutines are running, ahead of the calls %d", runtime.NumGoroutine(), before)
}

// TestSectionsAtTheSameTime makes the same calls from many goroutines, which share the arguments.
func TestSectionsAtTheSameTime(t *testing.T) {
	f := turnedTo(kindFan(2), 3)
	list := append(nefDivisors(f), filled(4, 33), filled(4, 7), filled(4, -100), filled(4, 100))
	var due [][][]Vec
	for _, d := range list {
		due = append(due, callSections(f, d))
	}
	var workers sync.WaitGroup
	for range 20 {
		workers.Go(func() {
			for i, d := range list {
				if got := callSections(f, d); !slices.EqualFunc(got, due[i], slices.Equal[[]Vec]) {
					t.Errorf("the sections of %v of %v are not the same at the same time", d, f)
				}
			}
		})
	}
	workers.Wait()
}
