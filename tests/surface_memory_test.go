package tests

import (
	"slices"
	"testing"

	"loop.example/toricfans/impl"
)

// surfaceAnswer has all that the functions of the chapter tell of a fan.
type surfaceAnswer struct {
	sum, rank, square, det int
	told                   [5]bool
	table                  [][]int
	ample                  bool
}

func answerOf(f Fan) surfaceAnswer {
	var a surfaceAnswer
	a.sum, a.told[0] = impl.NumbersSum(f)
	a.rank, a.told[1] = impl.SurfaceRank(f)
	a.square, a.told[2] = impl.SurfaceSquare(f)
	a.det, a.told[3] = impl.SurfaceDet(f)
	a.table, a.told[4] = impl.SurfaceTable(f)
	a.ample = impl.SurfaceAmple(f)
	return a
}

func (a surfaceAnswer) equals(b surfaceAnswer) bool {
	return a.sum == b.sum && a.rank == b.rank && a.square == b.square && a.det == b.det && a.told == b.told && a.ample == b.ample && sameTable(a.table, b.table)
}

// numbersAnswer has all that the functions of the chapter tell of a list of numbers.
type numbersAnswer struct {
	f     Fan
	blown [][]int
}

func answerOfNumbers(list []int) numbersAnswer {
	f, _ := impl.NumbersFan(list)
	a := numbersAnswer{f: f}
	for _, i := range []int{0, 1, len(list) - 1, len(list), -1} {
		blown, _ := impl.NumbersBlow(list, i)
		a.blown = append(a.blown, blown)
	}
	return a
}

func (a numbersAnswer) equals(b numbersAnswer) bool {
	return slices.Equal(a.f, b.f) && sameTable(a.blown, b.blown)
}

// checkNoSurface holds against zero values what every function returns for a list that is no smooth fan.
func checkNoSurface(t *testing.T, f Fan) {
	t.Helper()
	if a := answerOf(f); !a.equals(surfaceAnswer{}) {
		t.Errorf("the surface of %v is told as %v", f, a)
	}
}

func TestSurfacesThatAreNone(t *testing.T) {
	for _, f := range append(unsmoothLists(), wholeThrees()...) {
		checkNoSurface(t, f)
	}
}

// TestSurfacesOfAnyNumbers puts every vector of edge numbers at every place.
func TestSurfacesOfAnyNumbers(t *testing.T) {
	none := 0
	for _, a := range anyVecs() {
		for _, f := range []Fan{planeFan(), kindFan(0), kindFan(3), longFan(9, 3), longFan(10, 5), {a, a, a}} {
			for i := range f {
				g := withRay(f, i, a)
				checkSurface(t, g)
				if !isSmooth(g) {
					none++
					checkNoSurface(t, g)
				}
			}
		}
	}
	atLeast(t, none, 5000)
}

func TestSurfacesLeaveTheirArguments(t *testing.T) {
	for _, f := range surfaceFans() {
		list, all := withRoom(f)
		before := slices.Clone(all)
		answerOf(list)
		if !slices.Equal(all, before) {
			t.Fatalf("the list %v was changed to %v", before, all)
		}
	}
	for _, list := range numberLists() {
		some, all := numbersWithRoom(list)
		before := slices.Clone(all)
		answerOfNumbers(some)
		if !slices.Equal(all, before) {
			t.Fatalf("the list %v was changed to %v", before, all)
		}
	}
}

// wipeTable writes over each row, with the memory behind its end, and holds the other rows against what they were.
func wipeTable(t *testing.T, table [][]int) {
	t.Helper()
	for i := range table {
		due := slices.Clone(table)
		for k, row := range table {
			due[k] = slices.Clone(row)
		}
		wipe(table[i])
		due[i] = filled(len(table[i]), 12345)
		if !sameTable(table, due) {
			t.Fatalf("row %d of %v shares memory with others", i, due)
		}
	}
	overwrite(table, nil)
}

func TestResultsOfSurfacesShareNoMemory(t *testing.T) {
	times := 0
	for _, f := range surfaceFans() {
		list, all := withRoom(f)
		before := slices.Clone(all)
		first, second := answerOf(list), answerOf(list)
		if !first.equals(second) {
			t.Fatalf("%v is answered in two ways", f)
		}
		times += len(first.table)
		wipeTable(t, first.table)
		if due := answerOf(slices.Clone(f)); !second.equals(due) || !slices.Equal(all, before) {
			t.Fatalf("a table of %v shares memory, or was kept", f)
		}
	}
	atLeast(t, times, 10000)
}

func TestResultsOfNumbersShareNoMemory(t *testing.T) {
	times := 0
	for _, list := range numberLists() {
		some, all := numbersWithRoom(list)
		before := slices.Clone(all)
		first, second := answerOfNumbers(some), answerOfNumbers(some)
		times += len(first.f)
		overwrite(first.f, Vec{X: 12345, Y: 6})
		wipeTable(t, first.blown)
		if due := answerOfNumbers(slices.Clone(list)); !second.equals(due) || !slices.Equal(all, before) {
			t.Fatalf("a result for %v shares memory, or was kept", list)
		}
	}
	atLeast(t, times, 10000)
}

func TestResultsOfSurfaceKindShareNoMemory(t *testing.T) {
	for k := 0; k <= 100; k++ {
		first, _ := impl.SurfaceKind(k)
		second, _ := impl.SurfaceKind(k)
		overwrite(first, Vec{X: 9, Y: 9})
		third, ok := impl.SurfaceKind(k)
		checkFan(t, "SurfaceKind", nil, k, second, true, kindFan(k), true)
		checkFan(t, "SurfaceKind", nil, k, third, ok, kindFan(k), true)
	}
}

// TestSurfacesInAnyOrder asks the same questions in one order and in the opposite one.
func TestSurfacesInAnyOrder(t *testing.T) {
	fans := surfaceFans()
	answers := make([]surfaceAnswer, len(fans))
	for i, f := range fans {
		answers[i] = answerOf(f)
	}
	for i := len(fans) - 1; i >= 0; i-- {
		if !answerOf(fans[i]).equals(answers[i]) {
			t.Errorf("%v is answered in two ways", fans[i])
		}
	}
	lists := numberLists()
	others := make([]numbersAnswer, len(lists))
	for i, list := range lists {
		others[i] = answerOfNumbers(list)
	}
	for i := len(lists) - 1; i >= 0; i-- {
		if !answerOfNumbers(lists[i]).equals(others[i]) {
			t.Errorf("%v is answered in two ways", lists[i])
		}
	}
}
