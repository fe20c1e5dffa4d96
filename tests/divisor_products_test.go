package tests

import (
	"math"
	"slices"
	"testing"

	"loop.example/toricfans/impl"
)

func TestDivisorProduct(t *testing.T) {
	for _, f := range divisorFans() {
		table := tableOf(f)
		for _, pair := range coefPairs(f) {
			a, b := pair[0], pair[1]
			due, valid := 0, hasCoefs(f, a) && hasCoefs(f, b)
			if valid {
				due = productIn(table, a, b)
			}
			got, ok := impl.DivisorProduct(f, a, b)
			checkNumber(t, "DivisorProduct", f, a, b, got, ok, due, valid)
		}
	}
}

// TestDivisorProductOfRays takes the divisors with 1 at one ray.
func TestDivisorProductOfRays(t *testing.T) {
	for _, f := range divisorFans() {
		table := tableOf(f)
		for i := range f {
			for k := range f {
				a, b := unit(len(f), i, 1), unit(len(f), k, 1)
				got, ok := impl.DivisorProduct(f, a, b)
				checkNumber(t, "DivisorProduct", f, a, b, got, ok, table[i][k], true)
			}
		}
	}
}

func TestDivisorProductOfSome(t *testing.T) {
	steep := fan(1000, -1, 1, 0, 1000, 1, -1, 0)
	cases := []struct {
		f    Fan
		a, b Divisor
		due  int
		ok   bool
	}{
		{planeFan(), Divisor{1, 0, 0}, Divisor{1, 0, 0}, 1, true},
		{planeFan(), Divisor{1, 2, 3}, Divisor{4, 5, 6}, 90, true},
		{planeFan(), Divisor{100, 100, 100}, Divisor{100, 100, 100}, 90000, true},
		{planeFan(), Divisor{100, 100, 100}, Divisor{-100, -100, -100}, -90000, true},
		{kindFan(0), Divisor{1, 0, 0, 0}, Divisor{0, 0, 1, 0}, 0, true},
		{kindFan(0), Divisor{2, 3, 5, 7}, Divisor{1, 1, 1, 1}, 34, true},
		{kindFan(3), Divisor{0, 1, 0, 0}, Divisor{0, 1, 0, 0}, -3, true},
		{kindFan(3), Divisor{0, 0, 0, 1}, Divisor{0, 0, 0, 1}, 3, true},
		{turnedTo(kindFan(3), 3), Divisor{1, 0, 0, 0}, Divisor{1, 0, 0, 0}, 3, true},
		{steep, Divisor{0, 100, 0, 0}, Divisor{0, 100, 0, 0}, -20000000, true},
		{steep, Divisor{0, 0, 0, -100}, Divisor{0, 0, 0, 100}, -20000000, true},
		{planeFan(), Divisor{0, 0, 0}, Divisor{0, 0, 0}, 0, true},
		{planeFan(), Divisor{101, 0, 0}, Divisor{0, 0, 0}, 0, false},
		{planeFan(), Divisor{1, 1, 1}, Divisor{0, 0, -101}, 0, false},
		{planeFan(), Divisor{1, 1, 1}, Divisor{1, 1}, 0, false},
		{planeFan(), Divisor{1, 1}, Divisor{1, 1, 1}, 0, false},
		{planeFan(), Divisor{1, 1, 1, 1}, Divisor{1, 1, 1, 1}, 0, false},
		{planeFan(), Divisor{math.MinInt, 1, 1}, Divisor{1, 1, 1}, 0, false},
		{planeFan(), nil, nil, 0, false},
		{fan(1, 0, 0, 1, -1, -2), Divisor{1, 1, 1}, Divisor{1, 1, 1}, 0, false},
		{reversedFan(planeFan()), Divisor{1, 1, 1}, Divisor{1, 1, 1}, 0, false},
		{nil, nil, nil, 0, false},
	}
	for _, c := range cases {
		got, ok := impl.DivisorProduct(c.f, c.a, c.b)
		checkNumber(t, "DivisorProduct", c.f, c.a, c.b, got, ok, c.due, c.ok)
	}
}

func TestDivisorDegrees(t *testing.T) {
	negative, zero, positive := 0, 0, 0
	for _, f := range divisorFans() {
		table := tableOf(f)
		for _, d := range divisorsAndNone(f) {
			valid := hasCoefs(f, d)
			var due []int
			if valid {
				due = degreesIn(table, d)
			}
			got, ok := impl.DivisorDegrees(f, d)
			checkDivisor(t, "DivisorDegrees", f, d, nil, got, ok, due, valid)
			if nef, ample := valid && isNef(table, d), valid && isAmple(table, d); impl.DivisorNef(f, d) != nef || impl.DivisorAmple(f, d) != ample {
				t.Errorf("DivisorNef(%v, %v) is not %v, or DivisorAmple is not %v", f, d, nef, ample)
			}
			switch {
			case !valid:
			case slices.Min(due) < 0:
				negative++
			case slices.Min(due) == 0:
				zero++
			default:
				positive++
			}
		}
	}
	atLeast(t, negative, 5000)
	atLeast(t, zero, 500)
	atLeast(t, positive, 300)
}

// TestAmpleOnManyRays has all degrees greater than 0, then just one of them 0, and then just one of them negative.
func TestAmpleOnManyRays(t *testing.T) {
	for _, f := range slices.Concat(allTurns(planeFan()), allTurns(kindFan(2)), allTurns(longFan(13, 5)), allTurns(evenFan())) {
		d := ampleOf(f)
		degrees, ok := impl.DivisorDegrees(f, d)
		checkDivisor(t, "DivisorDegrees", f, d, nil, degrees, ok, closedDegrees(f), true)
		if !impl.DivisorAmple(f, d) || !impl.DivisorNef(f, d) {
			t.Errorf("%v of %v is not ample", d, f)
		}
		for i, n := range numbersOfFan(f) {
			if n >= 0 || degrees[i]%-n != 0 {
				continue
			}
			e := plus(d, unit(len(f), i, degrees[i]/-n))
			if impl.DivisorAmple(f, e) || !impl.DivisorNef(f, e) {
				t.Errorf("%v of %v, with the degree 0 at %d, is ample, or is not nef", e, f, i)
			}
			e = plus(e, unit(len(f), i, 1))
			if impl.DivisorAmple(f, e) || impl.DivisorNef(f, e) {
				t.Errorf("%v of %v, with a negative degree at %d, is nef", e, f, i)
			}
		}
	}
}

func TestDivisorDegreesOfSome(t *testing.T) {
	six := fan(1, 0, 1, 1, 0, 1, -1, 0, -1, -1, 0, -1)
	steep := fan(1000, -1, 1, 0, 1000, 1, -1, 0)
	cases := []struct {
		f          Fan
		d          Divisor
		due        []int
		nef, ample bool
	}{
		{planeFan(), Divisor{1, 1, 1}, []int{3, 3, 3}, true, true},
		{planeFan(), Divisor{1, 0, 0}, []int{1, 1, 1}, true, true},
		{planeFan(), Divisor{1, 0, -1}, []int{0, 0, 0}, true, false},
		{planeFan(), Divisor{100, -100, -1}, []int{-1, -1, -1}, false, false},
		{kindFan(0), Divisor{1, 1, 0, 0}, []int{1, 1, 1, 1}, true, true},
		{kindFan(0), Divisor{0, 1, 0, 0}, []int{1, 0, 1, 0}, true, false},
		{kindFan(0), Divisor{2, 0, 0, -1}, []int{-1, 2, -1, 2}, false, false},
		{kindFan(3), Divisor{0, 0, 0, 1}, []int{1, 0, 1, 3}, true, false},
		{kindFan(3), Divisor{0, 1, 0, 0}, []int{1, -3, 1, 0}, false, false},
		{kindFan(3), Divisor{1, 0, 0, 1}, []int{1, 1, 1, 4}, true, true},
		{turnedTo(kindFan(3), 1), Divisor{0, 0, 1, 1}, []int{1, 1, 4, 1}, true, true},
		{turnedTo(kindFan(3), 1), Divisor{1, 0, 0, 0}, []int{-3, 1, 0, 1}, false, false},
		{kindFan(100), Divisor{0, 1, 100, 0}, []int{1, 0, 1, 100}, true, false},
		{kindFan(100), Divisor{0, 1, 99, 0}, []int{1, -1, 1, 99}, false, false},
		{six, Divisor{1, 1, 1, 1, 1, 1}, []int{1, 1, 1, 1, 1, 1}, true, true},
		{six, Divisor{-1, -1, -1, -1, -1, -1}, []int{-1, -1, -1, -1, -1, -1}, false, false},
		{six, Divisor{1, 1, 0, 0, 0, 0}, []int{0, 0, 1, 0, 0, 1}, true, false},
		{six, Divisor{1, 1, 1, 2, 1, 1}, []int{1, 1, 2, 0, 2, 1}, true, false},
		{six, Divisor{1, 1, 1, 3, 1, 1}, []int{1, 1, 3, -1, 3, 1}, false, false},
		{steep, Divisor{0, 100, 0, 0}, []int{100, -200000, 100, 0}, false, false},
		{steep, Divisor{-100, -100, -100, -100}, []int{-200, 199800, -200, -200200}, false, false},
		{longFan(20, 5), filled(20, 0), filled(20, 0), true, false},
		{planeFan(), Divisor{1, 1}, nil, false, false},
		{planeFan(), Divisor{1, 1, 1, 1}, nil, false, false},
		{planeFan(), Divisor{101, 1, 1}, nil, false, false},
		{planeFan(), Divisor{1, 1, math.MaxInt}, nil, false, false},
		{planeFan(), nil, nil, false, false},
		{fan(1, 0, 0, 1, -1, -2), Divisor{1, 1, 1}, nil, false, false},
		{reversedFan(planeFan()), Divisor{1, 1, 1}, nil, false, false},
	}
	for _, c := range cases {
		got, ok := impl.DivisorDegrees(c.f, c.d)
		checkDivisor(t, "DivisorDegrees", c.f, c.d, nil, got, ok, c.due, c.due != nil)
		if nef, ample := impl.DivisorNef(c.f, c.d), impl.DivisorAmple(c.f, c.d); nef != c.nef || ample != c.ample {
			t.Errorf("DivisorNef(%v, %v) returned %v, and DivisorAmple %v", c.f, c.d, nef, ample)
		}
	}
}

func TestDivisorEulerAndGenus(t *testing.T) {
	for _, f := range divisorFans() {
		table := tableOf(f)
		ones := filled(len(f), 1)
		for _, d := range divisorsAndNone(f) {
			euler, genus, valid := 0, 0, hasCoefs(f, d)
			if valid {
				twice, other := productIn(table, d, plus(d, ones)), productIn(table, d, plus(d, times(ones, -1)))
				if twice%2 != 0 || other%2 != 0 {
					t.Fatalf("the product for %v of %v is odd", d, f)
				}
				euler, genus = 1+twice/2, 1+other/2
			}
			got, ok := impl.DivisorEuler(f, d)
			checkNumber(t, "DivisorEuler", f, d, nil, got, ok, euler, valid)
			got, ok = impl.DivisorGenus(f, d)
			checkNumber(t, "DivisorGenus", f, d, nil, got, ok, genus, valid)
		}
	}
}

// TestDivisorEulerOfThePlane holds against numbers of monomials, with coefficients up to the limit.
func TestDivisorEulerOfThePlane(t *testing.T) {
	for _, f := range allTurns(planeFan()) {
		for a := -100; a <= 100; a += 5 {
			for _, d := range []Divisor{{a, a, a}, {100, a, 100}, {a, -100, -100}, {0, a, -a}, {a, 0, 0}} {
				n := d[0] + d[1] + d[2]
				got, ok := impl.DivisorEuler(f, d)
				checkNumber(t, "DivisorEuler", f, d, nil, got, ok, (n+1)*(n+2)/2, true)
				got, ok = impl.DivisorGenus(f, d)
				checkNumber(t, "DivisorGenus", f, d, nil, got, ok, (n-1)*(n-2)/2, true)
			}
		}
	}
}

// TestDivisorEulerOfSquares holds against numbers of squares, with coefficients up to the limit.
func TestDivisorEulerOfSquares(t *testing.T) {
	for _, f := range allTurns(kindFan(0)) {
		for a := -100; a <= 100; a += 5 {
			for _, d := range []Divisor{{a, a, a, a}, {100, a, 100, 0}, {a, -100, -100, -100}, {0, a, 7, -a}, {a, 0, 0, 1}} {
				n, m := d[0]+d[2], d[1]+d[3]
				got, ok := impl.DivisorEuler(f, d)
				checkNumber(t, "DivisorEuler", f, d, nil, got, ok, (n+1)*(m+1), true)
				got, ok = impl.DivisorGenus(f, d)
				checkNumber(t, "DivisorGenus", f, d, nil, got, ok, (n-1)*(m-1), true)
			}
		}
	}
}

// TestDivisorEulerOfTrivialOnes takes 0, the canonical one, what is the same but for a vector, and rays alone.
func TestDivisorEulerOfTrivialOnes(t *testing.T) {
	check := func(f Fan, d Divisor, euler, genus int) {
		t.Helper()
		got, ok := impl.DivisorEuler(f, d)
		checkNumber(t, "DivisorEuler", f, d, nil, got, ok, euler, true)
		got, ok = impl.DivisorGenus(f, d)
		checkNumber(t, "DivisorGenus", f, d, nil, got, ok, genus, true)
	}
	for _, f := range divisorFans() {
		size := len(f)
		check(f, filled(size, 0), 1, 1)
		check(f, filled(size, -1), 1, 13-size)
		check(f, filled(size, 1), 13-size, 1)
		for i, n := range numbersOfFan(f) {
			check(f, unit(size, i, 1), n+2, 0)
			check(f, unit(size, i, -1), 0, n+2)
		}
		for _, m := range goodVecs() {
			if d := productsWith(f, m); hasCoefs(f, d) {
				check(f, d, 1, 1)
			}
		}
	}
}

func TestDivisorEulerOfSome(t *testing.T) {
	steep := fan(1000, -1, 1, 0, 1000, 1, -1, 0)
	cases := []struct {
		f            Fan
		d            Divisor
		euler, genus int
		ok           bool
	}{
		{planeFan(), Divisor{1, 1, 1}, 10, 1, true},
		{planeFan(), Divisor{2, 2, 0}, 15, 3, true},
		{planeFan(), Divisor{100, 100, 100}, 45451, 44551, true},
		{planeFan(), Divisor{-100, -100, -100}, 44551, 45451, true},
		{planeFan(), Divisor{-100, 100, 0}, 1, 1, true},
		{planeFan(), Divisor{0, -1, 0}, 0, 3, true},
		{kindFan(3), Divisor{0, 1, 0, 0}, -1, 0, true},
		{kindFan(3), Divisor{0, -1, 0, 0}, 0, -1, true},
		{kindFan(1000), Divisor{0, 100, 0, 100}, 201, -199, true},
		{steep, Divisor{0, 100, 0, 0}, -10099899, -9900099, true},
		{planeFan(), Divisor{101, 0, 0}, 0, 0, false},
		{planeFan(), Divisor{0, 0, -101}, 0, 0, false},
		{planeFan(), Divisor{0, 0}, 0, 0, false},
		{planeFan(), Divisor{0, 0, 0, 0}, 0, 0, false},
		{planeFan(), Divisor{math.MinInt, 0, 0}, 0, 0, false},
		{planeFan(), Divisor{math.MaxInt, math.MaxInt, math.MaxInt}, 0, 0, false},
		{planeFan(), nil, 0, 0, false},
		{fan(1, 0, 0, 1, -1, -2), Divisor{0, 0, 0}, 0, 0, false},
		{reversedFan(planeFan()), Divisor{0, 0, 0}, 0, 0, false},
		{longFan(21, 5), filled(21, 0), 0, 0, false},
		{nil, nil, 0, 0, false},
	}
	for _, c := range cases {
		got, ok := impl.DivisorEuler(c.f, c.d)
		checkNumber(t, "DivisorEuler", c.f, c.d, nil, got, ok, c.euler, c.ok)
		got, ok = impl.DivisorGenus(c.f, c.d)
		checkNumber(t, "DivisorGenus", c.f, c.d, nil, got, ok, c.genus, c.ok)
	}
}
