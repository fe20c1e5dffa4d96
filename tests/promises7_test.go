package tests

import (
	"slices"
	"testing"

	"loop.example/toricfans/impl"
)

// These tests hold the functions of chapter 7 against each other, promise by promise, as those of the chapters 1 to 6 do.

func TestPromise73(t *testing.T) {
	all, told := 0, 0
	for _, p := range reflexivesAndOthers() {
		if !impl.ReflexiveIn(p) {
			continue
		}
		all++
		checkEqual(t, "PolygonInner", p, polygonInner(t, p), 1)
		if q, ok := impl.PolygonMove(p, Mat{A: 1, B: 1, C: 0, D: 1}); ok {
			told++
			checkReflexiveIn(t, q, true)
		}
	}
	atLeast(t, all, 2000)
	atLeast(t, told, 1500)
}

// detsAreGreater reports whether each corner and the next one have a determinant greater than 0.
func detsAreGreater(t *testing.T, p Polygon) bool {
	t.Helper()
	for i, a := range p {
		if vecDet(t, a, nextOf(p, i)) <= 0 {
			return false
		}
	}
	return true
}

func TestPromise74(t *testing.T) {
	one, more := 0, 0
	for _, p := range reflexivesAndOthers() {
		n, ok := impl.PolygonInner(p)
		if !ok || !detsAreGreater(t, p) {
			continue
		}
		checkReflexiveIn(t, p, n == 1)
		if n == 1 {
			one++
		} else {
			more++
		}
	}
	atLeast(t, one, 2000)
	atLeast(t, more, 200)
}

func TestPromise75(t *testing.T) {
	all := 0
	for _, p := range reflexivesAndOthers() {
		dual, ok := impl.ReflexiveDual(p)
		if !ok {
			continue
		}
		all++
		checkReflexiveIn(t, dual, true)
		checkEqual(t, "the number of corners of the dual", p, len(dual), len(p))
		back, ok := impl.ReflexiveDual(dual)
		checkFan(t, "ReflexiveDual", dual, nil, back, ok, polygonTidy(t, p), true)
	}
	atLeast(t, all, 1500)
}

func TestPromise76(t *testing.T) {
	all := 0
	for _, p := range reflexivesAndOthers() {
		n, k, ok := impl.ReflexiveTwelve(p)
		if !ok {
			continue
		}
		all++
		checkEqual(t, "both numbers together", p, n+k, 12)
		checkEqual(t, "the first number", p, n, polygonArea(t, p))
		dual := needed[Polygon](t, "ReflexiveDual", p)(impl.ReflexiveDual(p))
		checkEqual(t, "the second number", p, k, polygonArea(t, dual))
	}
	atLeast(t, all, 1500)
}

func TestPromise77(t *testing.T) {
	all := 0
	for _, p := range reflexivesAndOthers() {
		f, ok := impl.ReflexiveFan(p)
		if !ok {
			continue
		}
		all++
		if !impl.FanSmooth(f) {
			t.Errorf("ReflexiveFan(%v) is not smooth: %v", p, f)
		}
		checkConvex(t, f, true)
		checkEqual(t, "the number of rays", p, len(f), polygonEdge(t, p))
	}
	atLeast(t, all, 2000)
}

func TestPromise78(t *testing.T) {
	all, told := 0, 0
	for _, f := range fansAround() {
		p, ok := impl.ReflexiveOfFan(f)
		if !ok || !impl.FanConvex(f) {
			continue
		}
		all++
		checkReflexiveIn(t, p, true)
		if dual, ok := impl.ReflexiveDual(p); ok {
			told++
			got, ok := impl.ReflexiveFan(dual)
			checkFan(t, "ReflexiveFan", dual, nil, got, ok, fanTidy(t, f), true)
		}
	}
	atLeast(t, all, 1500)
	atLeast(t, told, 1000)
}

// TestPromise79 takes the numbers of a ray for its X and its Y: by the numbers of chapter 3 alone, the sections might be anywhere.
func TestPromise79(t *testing.T) {
	all, small, others := 0, 0, 0
	for _, f := range fansAround() {
		if _, ok := impl.FanNumbers(f); !ok {
			continue
		}
		convex := impl.DivisorNef(f, filled(len(f), 1))
		checkConvex(t, f, convex)
		if !convex {
			others++
			continue
		}
		all++
		if sizeOf(f) <= 6 {
			small++
			needed[Polygon](t, "ReflexiveOfFan", f)(impl.ReflexiveOfFan(f))
		}
	}
	atLeast(t, all, 2000)
	atLeast(t, small, 1000)
	atLeast(t, others, 500)
}

func TestPromise80(t *testing.T) {
	all := 0
	for _, p := range reflexivesAndOthers() {
		numbers, ok := impl.ReflexiveNumbers(p)
		if !ok {
			continue
		}
		all++
		if slices.Min(numbers) < -2 {
			t.Errorf("ReflexiveNumbers(%v) returned %v", p, numbers)
		}
		sum, greater := 0, 0
		for _, n := range numbers {
			sum += n + 3
			if n > -2 {
				greater++
			}
		}
		checkEqual(t, "the sum of all numbers and 3 for each", p, sum, 12)
		checkEqual(t, "the number of those greater than -2", p, greater, len(p))
	}
	atLeast(t, all, 2000)
}
