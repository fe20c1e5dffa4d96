package tests

import (
	"math"
	"slices"
	"testing"

	"loop.example/toricfans/impl"
)

// callDivisors calls every function of the chapter, and returns all lists that result.
func callDivisors(f Fan, a, b Divisor) []Divisor {
	var results []Divisor
	keep := func(list []int, ok bool) {
		results = append(results, list)
	}
	for _, m := range []Vec{{}, {X: 1, Y: -1}, {X: 1000, Y: 1000}, {X: math.MinInt, Y: math.MaxInt}} {
		keep(impl.DivisorOf(f, m))
	}
	keep(impl.DivisorAdd(f, a, b))
	for _, n := range []int{0, 1, -1, 100, 101, math.MinInt, math.MaxInt} {
		keep(impl.DivisorTimes(f, a, n))
	}
	keep(impl.DivisorDegrees(f, a))
	keep(impl.DivisorPlain(f, a))
	keep(impl.DivisorCanonical(f))
	impl.DivisorIn(f, a)
	impl.DivisorProduct(f, a, b)
	impl.DivisorNef(f, a)
	impl.DivisorAmple(f, a)
	impl.DivisorEquivalent(f, a, b)
	impl.DivisorEuler(f, a)
	impl.DivisorGenus(f, a)
	return results
}

// numbersWithRoom returns a list with some of its memory behind its end, and all of this memory.
func numbersWithRoom(d Divisor) (Divisor, Divisor) {
	all := append(slices.Clone(d), 7, 8, 9, 10)
	return all[:len(d)], all
}

func TestDivisorsLeaveTheirArguments(t *testing.T) {
	for _, f := range divisorFansAndNone() {
		rays, allRays := withRoom(f)
		raysBefore := slices.Clone(allRays)
		for i, pair := range coefPairs(f) {
			if i%23 != 0 {
				continue
			}
			a, allA := numbersWithRoom(pair[0])
			b, allB := numbersWithRoom(pair[1])
			beforeA, beforeB := slices.Clone(allA), slices.Clone(allB)
			callDivisors(rays, a, b)
			callDivisors(rays, a, a)
			if !slices.Equal(allA, beforeA) || !slices.Equal(allB, beforeB) || !slices.Equal(allRays, raysBefore) {
				t.Fatalf("%v, %v or %v was changed", f, pair[0], pair[1])
			}
		}
	}
}

// wipe writes over a list and all memory behind its end that belongs to it.
func wipe(list []int) {
	overwrite(list[:cap(list)], 12345)
}

func TestResultsOfDivisorsShareNoMemory(t *testing.T) {
	for _, f := range divisorFans() {
		size := len(f)
		rays := slices.Clone(f)
		for _, pair := range [][2]Divisor{
			{filled(size, 0), filled(size, 0)}, {filled(size, 1), filled(size, -1)},
			{mixedDivisors(size)[0], mixedDivisors(size)[1]}, {unit(size, size-1, 100), filled(size, 0)},
		} {
			a, allA := numbersWithRoom(pair[0])
			b, allB := numbersWithRoom(pair[1])
			beforeA, beforeB := slices.Clone(allA), slices.Clone(allB)
			due := callDivisors(f, slices.Clone(a), slices.Clone(b))
			results := callDivisors(rays, a, b)
			for i, result := range results {
				if !slices.Equal(result, due[i]) {
					t.Fatalf("result %d of %v and %v of %v was changed to %v", i, a, b, f, result)
				}
				wipe(result)
			}
			if !slices.Equal(allA, beforeA) || !slices.Equal(allB, beforeB) || !slices.Equal(rays, f) {
				t.Fatalf("a result shares memory with %v, %v or %v", f, pair[0], pair[1])
			}
			if again := callDivisors(rays, a, b); !slices.EqualFunc(again, due, slices.Equal[Divisor]) {
				t.Fatalf("a result for %v and %v of %v was kept", a, b, f)
			}
		}
	}
}

// checkNoDivisor holds against zero values what every function returns for a list that is no divisor, or for any list where there is no smooth fan.
func checkNoDivisor(t *testing.T, f Fan, d Divisor) {
	t.Helper()
	zero := filled(len(f), 0)
	for _, other := range []Divisor{zero, d} {
		got, ok := impl.DivisorAdd(f, d, other)
		checkDivisor(t, "DivisorAdd", f, d, other, got, ok, nil, false)
		got, ok = impl.DivisorAdd(f, other, d)
		checkDivisor(t, "DivisorAdd", f, other, d, got, ok, nil, false)
		n, ok := impl.DivisorProduct(f, d, other)
		checkNumber(t, "DivisorProduct", f, d, other, n, ok, 0, false)
		n, ok = impl.DivisorProduct(f, other, d)
		checkNumber(t, "DivisorProduct", f, other, d, n, ok, 0, false)
		checkEquivalent(t, f, d, other, false)
	}
	for _, n := range []int{0, 1, -1, 101, math.MinInt} {
		got, ok := impl.DivisorTimes(f, d, n)
		checkDivisor(t, "DivisorTimes", f, d, n, got, ok, nil, false)
	}
	got, ok := impl.DivisorDegrees(f, d)
	checkDivisor(t, "DivisorDegrees", f, d, nil, got, ok, nil, false)
	got, ok = impl.DivisorPlain(f, d)
	checkDivisor(t, "DivisorPlain", f, d, nil, got, ok, nil, false)
	n, ok := impl.DivisorEuler(f, d)
	checkNumber(t, "DivisorEuler", f, d, nil, n, ok, 0, false)
	n, ok = impl.DivisorGenus(f, d)
	checkNumber(t, "DivisorGenus", f, d, nil, n, ok, 0, false)
	if impl.DivisorIn(f, d) || impl.DivisorNef(f, d) || impl.DivisorAmple(f, d) {
		t.Errorf("DivisorIn(%v, %v), DivisorNef or DivisorAmple holds", f, d)
	}
}

func TestDivisorsThatAreNone(t *testing.T) {
	for _, f := range divisorFans() {
		for _, d := range badDivisors(f) {
			checkNoDivisor(t, f, d)
		}
	}
}

func TestDivisorsWithoutSmoothFans(t *testing.T) {
	for _, f := range unsmoothLists() {
		for i, d := range divisorsAndNone(f) {
			if len(f) < 100 || i%100 == 0 {
				checkNoDivisor(t, f, d)
			}
		}
		for _, m := range []Vec{{}, {X: 1, Y: 1}, {X: -1000, Y: 3}, {X: math.MinInt, Y: math.MaxInt}} {
			got, ok := impl.DivisorOf(f, m)
			checkDivisor(t, "DivisorOf", f, nil, m, got, ok, nil, false)
		}
		got, ok := impl.DivisorCanonical(f)
		checkDivisor(t, "DivisorCanonical", f, nil, nil, got, ok, nil, false)
	}
}

// TestDivisorsOfAnyNumbers puts every edge number at every place.
func TestDivisorsOfAnyNumbers(t *testing.T) {
	f := turnedTo(kindFan(3), 1)
	for _, n := range edgeNumbers() {
		for _, k := range edgeNumbers() {
			for i := range f {
				d := with(unit(4, i, n), (i+1)%4, k)
				if !hasCoefs(f, d) {
					checkNoDivisor(t, f, d)
				}
				if got := impl.DivisorIn(f, d); got != hasCoefs(f, d) {
					t.Errorf("DivisorIn(%v, %v) returned %v", f, d, got)
				}
			}
			due := productsWith(f, Vec{X: n, Y: k})
			got, ok := impl.DivisorOf(f, Vec{X: n, Y: k})
			checkDivisor(t, "DivisorOf", f, nil, Vec{X: n, Y: k}, got, ok, due, isVec(Vec{X: n, Y: k}) && hasCoefs(f, due))
		}
	}
}
