package tests

import (
	"slices"
	"testing"

	"loop.example/toricfans/impl"
)

// These tests hold the functions of chapter 8 against each other, promise by promise, as those of the chapters 1 to 7 do.

func fanNumbers(t *testing.T, f Fan) []int {
	t.Helper()
	return needed[[]int](t, "FanNumbers", f)(impl.FanNumbers(f))
}

func checkNumbers(t *testing.T, what string, f Fan, got, due []int) {
	t.Helper()
	if !slices.Equal(got, due) {
		t.Errorf("%s of %v: %v, not %v", what, f, got, due)
	}
}

// withThrees returns the sum of all numbers of a list and 3 for each.
func withThrees(list []int) int {
	sum := 3 * len(list)
	for _, n := range list {
		sum += n
	}
	return sum
}

func TestPromise81(t *testing.T) {
	all, told := 0, 0
	for _, f := range surfaceFans() {
		numbers, ok := impl.FanNumbers(f)
		if !ok {
			continue
		}
		all++
		checkEqual(t, "how many numbers there are", f, len(numbers), len(f))
		checkEqual(t, "the sum of all numbers and 3 for each", f, withThrees(numbers), 12)
		if g, ok := impl.NumbersFan(numbers); ok {
			told++
			checkNumbers(t, "the numbers of NumbersFan", f, fanNumbers(t, g), numbers)
		}
	}
	atLeast(t, all, 5000)
	atLeast(t, told, 5000)
}

func TestPromise82(t *testing.T) {
	all, told, untold := 0, 0, 0
	for k, f := range surfaceFans() {
		for i := range f[:min(len(f), 20)] {
			g, ok := impl.FanBlow(f, i)
			if !ok || len(f) > 3 && k%5 != i%5 {
				continue
			}
			all++
			if !impl.FanSmooth(g) {
				t.Errorf("FanBlow(%v, %d) returned %v", f, i, g)
			}
			if numbers, ok := impl.NumbersBlow(fanNumbers(t, f), i); ok {
				told++
				checkNumbers(t, "the numbers of FanBlow", f, fanNumbers(t, g), numbers)
			} else {
				untold++
			}
			back, ok := impl.FanDown(g, i+1)
			checkFan(t, "FanDown", g, i+1, back, ok, f, true)
		}
	}
	atLeast(t, all, 5000)
	atLeast(t, told, 5000)
	atLeast(t, untold, 20)
}

func TestPromise83(t *testing.T) {
	all, told := 0, map[int]bool{}
	for _, f := range surfaceFans() {
		k, ok := impl.FanKind(f)
		if !ok {
			continue
		}
		all++
		if k < -1 {
			t.Errorf("FanKind(%v) returned %d", f, k)
		}
		turned := needed[Fan](t, "FanMove", f)(impl.FanMove(f, Mat{A: 0, B: -1, C: 1, D: 0}))
		checkEqual(t, "FanKind of the fan moved by a quarter turn", f, needed[int](t, "FanKind", turned)(impl.FanKind(turned)), k)
		if k >= 0 && k <= 100 {
			told[k] = true
			g := needed[Fan](t, "SurfaceKind", f)(impl.SurfaceKind(k))
			checkEqual(t, "FanKind of SurfaceKind", f, needed[int](t, "FanKind", g)(impl.FanKind(g)), k)
		}
	}
	atLeast(t, all, 3000)
	atLeast(t, len(told), 8)
	if !told[0] || !told[1] || !told[100] {
		t.Errorf("the kinds that are told are %v", told)
	}
}

func TestPromise84(t *testing.T) {
	all := 0
	for _, list := range numberLists() {
		f, ok := impl.NumbersFan(list)
		if !ok {
			continue
		}
		all++
		if !impl.FanSmooth(f) {
			t.Errorf("NumbersFan(%v) returned %v", list, f)
		}
		checkNumbers(t, "FanNumbers", f, fanNumbers(t, f), list)
	}
	atLeast(t, all, 5000)
}

func TestPromise85(t *testing.T) {
	all := 0
	for _, f := range surfaceFans() {
		if n, ok := impl.NumbersSum(f); ok {
			all++
			checkEqual(t, "NumbersSum", f, n, 12)
		}
	}
	atLeast(t, all, 5000)
}

func TestPromise86(t *testing.T) {
	all := 0
	for _, list := range numberLists() {
		for _, i := range indexesOf(list[:min(len(list), 30)]) {
			blown, ok := impl.NumbersBlow(list, i)
			if !ok {
				continue
			}
			all++
			if len(blown) != len(list)+1 || blown[i+1] != -1 || withThrees(blown) != withThrees(list) {
				t.Errorf("NumbersBlow(%v, %d) returned %v", list, i, blown)
			}
		}
	}
	atLeast(t, all, 50000)
}

func TestPromise87(t *testing.T) {
	all := 0
	for _, k := range append(greatNumbers(), allNumbers(-20, 120)...) {
		f, ok := impl.SurfaceKind(k)
		if !ok {
			continue
		}
		all++
		checkNumbers(t, "FanNumbers", f, fanNumbers(t, f), []int{0, -k, 0, k})
		checkEqual(t, "FanKind", f, needed[int](t, "FanKind", f)(impl.FanKind(f)), k)
	}
	atLeast(t, all, 101)
}

func allNumbers(from, to int) []int {
	var list []int
	for n := from; n <= to; n++ {
		list = append(list, n)
	}
	return list
}

func TestPromise88(t *testing.T) {
	all := 0
	for _, f := range surfaceFans() {
		rank, ok := impl.SurfaceRank(f)
		if !ok {
			continue
		}
		all++
		square := needed[int](t, "SurfaceSquare", f)(impl.SurfaceSquare(f))
		checkEqual(t, "the rank and the square together", f, rank+square, 10)
	}
	atLeast(t, all, 5000)
}

func TestPromise89(t *testing.T) {
	all, told := 0, 0
	for _, f := range surfaceFans() {
		square, ok := impl.SurfaceSquare(f)
		if !ok {
			continue
		}
		all++
		if g, ok := impl.FanBlow(f, 0); ok {
			told++
			checkEqual(t, "the square of the fan blown up", f, needed[int](t, "SurfaceSquare", g)(impl.SurfaceSquare(g)), square-1)
		}
	}
	atLeast(t, all, 5000)
	atLeast(t, told, 4000)
}

// TestPromise90 also holds each number of a table against DivisorProduct, and each number of a ray against the row of it.
func TestPromise90(t *testing.T) {
	all := 0
	for k, f := range surfaceFans() {
		table, ok := impl.SurfaceTable(f)
		if !ok {
			continue
		}
		all++
		checkEqual(t, "how many rows there are", f, len(table), len(f)-2)
		for i, row := range table {
			checkEqual(t, "how many numbers a row has", f, len(row), len(f)-2)
			for n := range row {
				checkEqual(t, "a number of the table", f, row[n], table[n][i])
				if k%7 == n {
					checkEqual(t, "a number of the table", f, row[n], divisorProduct(t, f, unit(len(f), i+2, 1), unit(len(f), n+2, 1)))
				}
			}
		}
	}
	atLeast(t, all, 5000)
}

func TestPromise91(t *testing.T) {
	odd, even, none := 0, 0, 0
	for _, f := range surfaceFans() {
		det, ok := impl.SurfaceDet(f)
		switch {
		case !ok:
			none++
		case len(f)%2 == 1:
			odd++
			checkEqual(t, "SurfaceDet", f, det, 1)
		default:
			even++
			checkEqual(t, "SurfaceDet", f, det, -1)
		}
	}
	atLeast(t, odd, 3000)
	atLeast(t, even, 3000)
	atLeast(t, none, 3000)
}

func TestPromise92(t *testing.T) {
	all := 0
	for _, f := range surfaceFans() {
		if !impl.SurfaceAmple(f) {
			continue
		}
		all++
		if len(f) > 6 || !impl.DivisorAmple(f, filled(len(f), 1)) || !impl.FanConvex(f) {
			t.Errorf("SurfaceAmple(%v) holds", f)
		}
	}
	atLeast(t, all, 2000)
}
