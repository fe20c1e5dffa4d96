package tests

import (
	"math"
	"slices"
	"testing"

	"loop.example/toricfans/impl"
)

func TestDivisorValues(t *testing.T) {
	if impl.CoefMax != 100 {
		t.Errorf("CoefMax is %d", impl.CoefMax)
	}
	ample, nef := 0, 0
	for _, f := range divisorFans() {
		if !isSmooth(f) {
			t.Errorf("%v is listed as smooth", f)
		}
		table := tableOf(f)
		for _, d := range nefDivisors(f) {
			if !hasCoefs(f, d) || !isNef(table, d) {
				t.Errorf("%v of %v is listed as nef", d, f)
			}
			if isAmple(table, d) {
				ample++
			} else {
				nef++
			}
		}
		for _, d := range goodDivisors(f) {
			if !hasCoefs(f, d) {
				t.Errorf("%v is listed as a divisor of %v", d, f)
			}
		}
		for _, d := range badDivisors(f) {
			if hasCoefs(f, d) {
				t.Errorf("%v is listed as no divisor of %v", d, f)
			}
		}
	}
	atLeast(t, ample, 300)
	atLeast(t, nef, 300)
	for _, f := range unsmoothLists() {
		if isSmooth(f) {
			t.Errorf("%v is listed as not smooth", f)
		}
	}
}

// checkDivisor compares a result with the list that is due if there is one.
func checkDivisor(t *testing.T, name string, f Fan, d Divisor, with any, got Divisor, ok bool, due Divisor, valid bool) {
	t.Helper()
	if !valid {
		due = nil
	}
	if ok != valid || !slices.Equal(got, due) {
		t.Errorf("%s(%v, %v, %v) returned %v, %v, not %v, %v", name, f, d, with, got, ok, due, valid)
	}
}

// checkNumber compares a result with the number that is due if there is one.
func checkNumber(t *testing.T, name string, f Fan, d Divisor, with any, got int, ok bool, due int, valid bool) {
	t.Helper()
	if !valid {
		due = 0
	}
	if ok != valid || got != due {
		t.Errorf("%s(%v, %v, %v) returned %d, %v, not %d, %v", name, f, d, with, got, ok, due, valid)
	}
}

func TestDivisorIn(t *testing.T) {
	for _, f := range append(divisorFans(), unsmoothLists()...) {
		smooth := isSmooth(f)
		for _, d := range divisorsAndNone(f) {
			if got := impl.DivisorIn(f, d); got != (smooth && hasCoefs(f, d)) {
				t.Errorf("DivisorIn(%v, %v) returned %v", f, d, got)
			}
		}
	}
}

func TestDivisorInOfSome(t *testing.T) {
	cases := []struct {
		f   Fan
		d   Divisor
		due bool
	}{
		{planeFan(), Divisor{0, 0, 0}, true},
		{planeFan(), Divisor{100, -100, 7}, true},
		{planeFan(), Divisor{-100, 7, 100}, true},
		{planeFan(), Divisor{101, 0, 0}, false},
		{planeFan(), Divisor{0, 101, 0}, false},
		{planeFan(), Divisor{0, 0, 101}, false},
		{planeFan(), Divisor{-101, 0, 0}, false},
		{planeFan(), Divisor{0, 0, -101}, false},
		{planeFan(), Divisor{0, 0, math.MinInt}, false},
		{planeFan(), Divisor{math.MaxInt, 0, 0}, false},
		{planeFan(), Divisor{0, 0}, false},
		{planeFan(), Divisor{0, 0, 0, 0}, false},
		{planeFan(), Divisor{}, false},
		{planeFan(), nil, false},
		{longFan(20, 5), filled(20, -100), true},
		{longFan(20, 5), filled(19, 1), false},
		{longFan(20, 5), filled(21, 1), false},
		{longFan(20, 5), unit(20, 19, 101), false},
		{longFan(21, 5), filled(21, 1), false},
		{fan(1, 0, 0, 1, -1, -2), Divisor{0, 0, 0}, false},
		{reversedFan(planeFan()), Divisor{0, 0, 0}, false},
		{fan(1, 0, 0, 1), Divisor{0, 0}, false},
		{nil, nil, false},
		{Fan{}, Divisor{}, false},
	}
	for _, c := range cases {
		if got := impl.DivisorIn(c.f, c.d); got != c.due {
			t.Errorf("DivisorIn(%v, %v) returned %v", c.f, c.d, got)
		}
	}
}

// greatest returns the greatest size of a number of a list.
func greatest(list []int) int {
	return max(slices.Max(list), -slices.Min(list))
}

// vectorsAt has vectors whose greatest product with a ray is just within or just beyond the limit, as far as there are such ones, and many others.
func vectorsAt(f Fan) []Vec {
	list := append(badVecs(), goodVecs()...)
	for i := range min(len(f), 20) {
		u, v := f[i], nextOf(f, i)
		for n := -102; n <= 102; n++ {
			for k := -1; k <= 1; k++ {
				a := Vec{X: n*v.Y - k*u.Y, Y: k*u.X - n*v.X}
				if d := productsWith(f, a); k == 0 && n%10 == 0 || len(d) > 0 && greatest(d) >= 99 && greatest(d) <= 102 {
					list = append(list, a)
				}
			}
		}
	}
	return list
}

func TestDivisorOf(t *testing.T) {
	within, beyond, none := 0, 0, 0
	for _, f := range divisorFans() {
		for _, m := range vectorsAt(f) {
			due := productsWith(f, m)
			got, ok := impl.DivisorOf(f, m)
			checkDivisor(t, "DivisorOf", f, nil, m, got, ok, due, isVec(m) && hasCoefs(f, due))
			switch {
			case !isVec(m) && hasCoefs(f, due):
				none++
			case isVec(m) && greatest(due) == 100:
				within++
			case isVec(m) && greatest(due) == 101:
				beyond++
			}
		}
	}
	atLeast(t, within, 200)
	atLeast(t, beyond, 200)
	atLeast(t, none, 20)
}

func TestDivisorOfSome(t *testing.T) {
	narrow := fan(1000, 999, -999, -998, -1, -1)
	cases := []struct {
		f   Fan
		m   Vec
		due Divisor
	}{
		{planeFan(), Vec{}, Divisor{0, 0, 0}},
		{planeFan(), Vec{X: 3, Y: -5}, Divisor{3, -5, 2}},
		{turnedTo(planeFan(), 1), Vec{X: 3, Y: -5}, Divisor{-5, 2, 3}},
		{planeFan(), Vec{X: 100, Y: 0}, Divisor{100, 0, -100}},
		{planeFan(), Vec{X: -60, Y: -40}, Divisor{-60, -40, 100}},
		{planeFan(), Vec{X: -60, Y: -41}, nil},
		{planeFan(), Vec{X: 60, Y: 41}, nil},
		{planeFan(), Vec{X: 101, Y: -1}, nil},
		{planeFan(), Vec{X: 0, Y: -101}, nil},
		{planeFan(), Vec{X: 1001, Y: 0}, nil},
		{planeFan(), Vec{X: math.MinInt, Y: math.MaxInt}, nil},
		{planeFan(), Vec{X: math.MinInt, Y: math.MinInt}, nil},
		{kindFan(1000), Vec{X: 100, Y: 0}, Divisor{100, 0, -100, 0}},
		{kindFan(1000), Vec{X: 0, Y: 1}, nil},
		{kindFan(99), Vec{X: -1, Y: 1}, Divisor{-1, 1, 100, -1}},
		{kindFan(99), Vec{X: -2, Y: 1}, nil},
		{narrow, Vec{X: -998, Y: 999}, Divisor{1, 0, -1}},
		{narrow, Vec{X: -999, Y: 1000}, Divisor{0, 1, -1}},
		{narrow, Vec{X: -1000, Y: 1001}, nil},
		{narrow, Vec{X: 1000, Y: -1000}, nil},
		{narrow, Vec{}, Divisor{0, 0, 0}},
		{fan(1, 0, 0, 1, -1, -2), Vec{}, nil},
		{reversedFan(planeFan()), Vec{X: 1, Y: 1}, nil},
		{nil, Vec{}, nil},
	}
	for _, c := range cases {
		got, ok := impl.DivisorOf(c.f, c.m)
		checkDivisor(t, "DivisorOf", c.f, nil, c.m, got, ok, c.due, c.due != nil)
	}
	if d, ok := impl.DivisorOf(narrow, Vec{X: 2, Y: -2}); !ok || !slices.Equal(d, Divisor{2, -2, 0}) {
		t.Errorf("DivisorOf(%v, 2, -2) returned %v, %v", narrow, d, ok)
	}
}

func TestDivisorAdd(t *testing.T) {
	for _, f := range divisorFans() {
		for _, pair := range coefPairs(f) {
			a, b := pair[0], pair[1]
			valid := hasCoefs(f, a) && hasCoefs(f, b)
			var due Divisor
			if valid {
				due = plus(a, b)
			}
			got, ok := impl.DivisorAdd(f, a, b)
			checkDivisor(t, "DivisorAdd", f, a, b, got, ok, due, valid && hasCoefs(f, due))
		}
	}
}

// TestDivisorAddAtTheLimit makes each number of the sum 100 and 101 in size, with small ones elsewhere.
func TestDivisorAddAtTheLimit(t *testing.T) {
	for _, f := range []Fan{planeFan(), turnedTo(kindFan(3), 2), longFan(20, 5)} {
		for i := range f {
			for _, n := range []int{1, 37, 50, 99, 100} {
				a, b := with(mixedDivisors(len(f))[0], i, n), with(mixedDivisors(len(f))[1], i, 100-n)
				for _, sign := range []int{1, -1} {
					got, ok := impl.DivisorAdd(f, times(a, sign), times(b, sign))
					checkDivisor(t, "DivisorAdd", f, a, b, got, ok, times(plus(a, b), sign), true)
					beyond := times(plus(b, unit(len(f), i, 1)), sign)
					got, ok = impl.DivisorAdd(f, times(a, sign), beyond)
					checkDivisor(t, "DivisorAdd", f, a, beyond, got, ok, nil, false)
					got, ok = impl.DivisorAdd(f, beyond, times(a, sign))
					checkDivisor(t, "DivisorAdd", f, beyond, a, got, ok, nil, false)
				}
			}
		}
	}
}

func TestDivisorAddOfSome(t *testing.T) {
	cases := []struct{ a, b, due Divisor }{
		{Divisor{1, 2, 3}, Divisor{-4, 5, 60}, Divisor{-3, 7, 63}},
		{Divisor{100, -100, 0}, Divisor{0, 0, 0}, Divisor{100, -100, 0}},
		{Divisor{100, -100, 50}, Divisor{-100, 100, 50}, Divisor{0, 0, 100}},
		{Divisor{100, 0, 0}, Divisor{1, 0, 0}, nil},
		{Divisor{0, 0, -100}, Divisor{0, 0, -1}, nil},
		{Divisor{100, 0, 0}, Divisor{100, 0, 0}, nil},
		{Divisor{101, 0, 0}, Divisor{-1, 0, 0}, nil},
		{Divisor{-1, 0, 0}, Divisor{101, 0, 0}, nil},
		{Divisor{math.MaxInt, 0, 0}, Divisor{math.MinInt, 0, 0}, nil},
		{Divisor{math.MinInt, 0, 0}, Divisor{math.MinInt, 0, 0}, nil},
		{Divisor{0, 0, 0}, Divisor{0, 0}, nil},
		{Divisor{0, 0}, Divisor{0, 0, 0}, nil},
		{Divisor{0, 0, 0, 0}, Divisor{0, 0, 0}, nil},
		{Divisor{0, 0, 0}, nil, nil},
		{nil, Divisor{0, 0, 0}, nil},
		{nil, nil, nil},
	}
	for _, c := range cases {
		got, ok := impl.DivisorAdd(planeFan(), c.a, c.b)
		checkDivisor(t, "DivisorAdd", planeFan(), c.a, c.b, got, ok, c.due, c.due != nil)
	}
}

// factors has numbers around the limit, those that take 1, 2, 3, 50 and 51 to it or beyond it, and those whose products wrap around.
func factors() []int {
	return append([]int{0, 1, -1, 2, -2, 3, 33, 34, 50, -50, 51, 99, -99, 100, -100}, beyondCoef()...)
}

func TestDivisorTimes(t *testing.T) {
	for i, f := range divisorFans() {
		list := divisorsAndNone(f)
		for k := i % 3; k < len(list); k += 3 {
			a := list[k]
			for _, n := range factors() {
				due := times(a, n)
				got, ok := impl.DivisorTimes(f, a, n)
				checkDivisor(t, "DivisorTimes", f, a, n, got, ok, due, inCoef(n) && hasCoefs(f, a) && hasCoefs(f, due))
			}
		}
	}
}

func TestDivisorTimesOfSome(t *testing.T) {
	cases := []struct {
		a   Divisor
		n   int
		due Divisor
	}{
		{Divisor{1, -2, 3}, 4, Divisor{4, -8, 12}},
		{Divisor{100, -100, 7}, 0, Divisor{0, 0, 0}},
		{Divisor{100, -100, 7}, 1, Divisor{100, -100, 7}},
		{Divisor{100, -100, 7}, -1, Divisor{-100, 100, -7}},
		{Divisor{1, 0, -1}, 100, Divisor{100, 0, -100}},
		{Divisor{1, 0, -1}, -100, Divisor{-100, 0, 100}},
		{Divisor{1, 0, -1}, 101, nil},
		{Divisor{1, 0, -1}, -101, nil},
		{Divisor{0, 0, 0}, 100, Divisor{0, 0, 0}},
		{Divisor{0, 0, 0}, 101, nil},
		{Divisor{0, 0, 0}, -101, nil},
		{Divisor{0, 0, 0}, math.MinInt, nil},
		{Divisor{0, 0, 0}, math.MaxInt, nil},
		{Divisor{50, 0, -50}, 2, Divisor{100, 0, -100}},
		{Divisor{50, 0, -50}, -2, Divisor{-100, 0, 100}},
		{Divisor{51, 0, 0}, 2, nil},
		{Divisor{0, 0, 51}, -2, nil},
		{Divisor{2, 0, 0}, 51, nil},
		{Divisor{0, -2, 0}, 51, nil},
		{Divisor{101, 0, 0}, 0, nil},
		{Divisor{101, 0, 0}, 1, nil},
		{Divisor{3, 0, 0}, wrapper, nil},
		{Divisor{wrapper, 0, 0}, 3, nil},
		{Divisor{math.MinInt, 0, 0}, 2, nil},
		{Divisor{math.MinInt, 0, 0}, -1, nil},
		{Divisor{1, 1}, 1, nil},
		{Divisor{1, 1, 1, 1}, 0, nil},
		{nil, 0, nil},
		{Divisor{}, 1, nil},
	}
	for _, c := range cases {
		got, ok := impl.DivisorTimes(planeFan(), c.a, c.n)
		checkDivisor(t, "DivisorTimes", planeFan(), c.a, c.n, got, ok, c.due, c.due != nil)
	}
}

func TestDivisorCanonical(t *testing.T) {
	for _, f := range append(smoothFans(), unsmoothLists()...) {
		got, ok := impl.DivisorCanonical(f)
		checkDivisor(t, "DivisorCanonical", f, nil, nil, got, ok, filled(len(f), -1), isSmooth(f))
	}
	for _, rays := range []int{3, 4, 19, 20} {
		for _, f := range allTurns(longFan(rays, 5)) {
			if got, ok := impl.DivisorCanonical(f); !ok || len(got) != rays || slices.Min(got) != -1 || slices.Max(got) != -1 {
				t.Errorf("DivisorCanonical(%v) returned %v, %v", f, got, ok)
			}
		}
	}
}
