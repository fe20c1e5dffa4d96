package tests

import (
	"slices"
	"testing"

	"loop.example/toricfans/impl"
)

// These tests hold the functions of chapter 5 against each other, promise by promise, as those of the chapters 1 to 4 do.

// eachDivisor calls a function for smooth fans and others with divisors and what is none.
func eachDivisor(look func(f Fan, d Divisor)) {
	for _, f := range divisorFansAndNone() {
		for i, d := range divisorsAndNone(f) {
			if len(f) < 100 || i%100 == 0 {
				look(f, d)
			}
		}
	}
}

func sectionCount(t *testing.T, f Fan, d Divisor) int {
	t.Helper()
	n, ok := impl.SectionCount(f, d)
	if !ok {
		t.Errorf("SectionCount(%v, %v) failed", f, d)
	}
	return n
}

func divisorEuler(t *testing.T, f Fan, d Divisor) int {
	t.Helper()
	n, ok := impl.DivisorEuler(f, d)
	if !ok {
		t.Errorf("DivisorEuler(%v, %v) failed", f, d)
	}
	return n
}

func TestPromise50(t *testing.T) {
	all, doubled := 0, 0
	eachDivisor(func(f Fan, d Divisor) {
		leastX, mostX, leastY, mostY, ok := impl.SectionBox(f, d)
		if !ok {
			return
		}
		all++
		list, _ := impl.SectionList(f, d)
		for _, m := range list {
			if m.X < leastX || m.X > mostX || m.Y < leastY || m.Y > mostY {
				t.Errorf("the section %v of %v of %v is not in the box", m, d, f)
			}
		}
		if double, ok := impl.DivisorTimes(f, d, 2); ok {
			doubled++
			checkBox(t, f, double, limits{2 * leastX, 2 * mostX, 2 * leastY, 2 * mostY}, true)
		}
	})
	atLeast(t, all, 10000)
	atLeast(t, doubled, 5000)
}

func TestPromise51(t *testing.T) {
	all := 0
	eachDivisor(func(f Fan, d Divisor) {
		double, ok := impl.DivisorTimes(f, d, 2)
		if !ok {
			return
		}
		for _, m := range around(f, d) {
			twice, ok := impl.VecTimes(m, 2)
			if ok && impl.SectionHas(f, d, m) {
				all++
				checkHas(t, f, double, twice, true)
			}
		}
	})
	atLeast(t, all, 10000)
}

func TestPromise52(t *testing.T) {
	all := 0
	eachDivisor(func(f Fan, d Divisor) {
		list, ok := impl.SectionList(f, d)
		n, fine := impl.SectionCount(f, d)
		checkNumber(t, "SectionCount", f, d, nil, n, fine, len(list), ok)
		for i, m := range list {
			all++
			checkHas(t, f, d, m, true)
			if i > 0 && (m.X < list[i-1].X || m.X == list[i-1].X && m.Y <= list[i-1].Y) {
				t.Errorf("SectionList(%v, %v) has %v ahead of %v", f, d, list[i-1], m)
			}
		}
	})
	atLeast(t, all, 100000)
}

func TestPromise53(t *testing.T) {
	nef, plain := 0, 0
	eachDivisor(func(f Fan, d Divisor) {
		n, ok := impl.SectionCount(f, d)
		if !ok {
			return
		}
		if impl.DivisorNef(f, d) {
			nef++
			if due := divisorEuler(t, f, d); n != due {
				t.Errorf("SectionCount(%v, %v) returned %d, not %d", f, d, n, due)
			}
		}
		e, ok := impl.DivisorPlain(f, d)
		if !ok {
			return
		}
		if got, ok := impl.SectionCount(f, e); ok {
			plain++
			checkNumber(t, "SectionCount", f, e, "plain", got, ok, n, true)
		}
	})
	atLeast(t, nef, 1000)
	atLeast(t, plain, 4000)
}

func TestPromise54(t *testing.T) {
	all, ample := 0, 0
	eachDivisor(func(f Fan, d Divisor) {
		n, ok := impl.SectionInner(f, d)
		if !ok {
			return
		}
		if impl.DivisorAmple(f, d) {
			ample++
			if due := divisorEuler(t, f, divisorTimes(t, f, d, -1)); n != due {
				t.Errorf("SectionInner(%v, %v) returned %d, not %d", f, d, n, due)
			}
		}
		e, ok := impl.DivisorAdd(f, d, divisorCanonical(t, f))
		if !ok {
			return
		}
		if got, ok := impl.SectionCount(f, e); ok {
			all++
			checkNumber(t, "SectionCount", f, e, "canonical", got, ok, n, true)
		}
	})
	atLeast(t, all, 5000)
	atLeast(t, ample, 300)
}

func TestPromise55(t *testing.T) {
	all := 0
	eachDivisor(func(f Fan, d Divisor) {
		if !impl.DivisorNef(f, d) {
			return
		}
		for i, degree := range divisorDegrees(t, f, d) {
			if n, ok := impl.SectionOn(f, d, i); ok {
				all++
				checkNumber(t, "SectionOn", f, d, i, n, ok, degree+1, true)
			}
		}
	})
	atLeast(t, all, 10000)
}

func TestPromise56(t *testing.T) {
	all := 0
	eachDivisor(func(f Fan, d Divisor) {
		corners, ok := impl.SectionCorners(f, d)
		if !ok {
			return
		}
		if len(corners) != len(f) {
			t.Fatalf("SectionCorners(%v, %v) returned %v", f, d, corners)
		}
		for i, degree := range divisorDegrees(t, f, d) {
			all++
			checkHas(t, f, d, corners[i], true)
			last := lastOf(corners, i)
			way := Vec{X: corners[i].X - last.X, Y: corners[i].Y - last.Y}
			if way != (Vec{X: degree * f[i].Y, Y: -degree * f[i].X}) {
				t.Errorf("the way to the corner %d of %v of %v is %v", i, d, f, way)
			}
		}
	})
	atLeast(t, all, 10000)
}

func TestPromise57(t *testing.T) {
	all := 0
	eachDivisor(func(f Fan, d Divisor) {
		n, ok := impl.SectionArea(f, d)
		if !ok {
			return
		}
		all++
		if due := divisorProduct(t, f, d, d); n != due {
			t.Errorf("SectionArea(%v, %v) returned %d, not %d", f, d, n, due)
		}
	})
	atLeast(t, all, 1000)
}

// TestPromisesOfSectionsOfAllSmallDivisors takes all divisors with small coefficients on fans with 3, 4 and 5 rays.
func TestPromisesOfSectionsOfAllSmallDivisors(t *testing.T) {
	nef, none := 0, 0
	for _, f := range []Fan{planeFan(), turnedTo(kindFan(0), 3), kindFan(1), turnedTo(kindFan(-2), 2), turnedTo(builtFans(2)[5], 1)} {
		list := []Divisor{nil}
		for range f {
			var longer []Divisor
			for _, d := range list {
				for n := -1; n <= 2; n++ {
					longer = append(longer, append(slices.Clone(d), n))
				}
			}
			list = longer
		}
		for _, d := range list {
			sections := sectionsOf(f, d)
			checkSections(t, f, d, sections, true)
			checkCorners(t, f, d)
			if impl.DivisorNef(f, d) {
				nef++
				if n := sectionCount(t, f, d); n != divisorEuler(t, f, d) {
					t.Errorf("SectionCount(%v, %v) returned %d", f, d, n)
				}
			}
			if len(sections) == 0 {
				none++
			}
		}
	}
	atLeast(t, nef, 300)
	atLeast(t, none, 300)
}
