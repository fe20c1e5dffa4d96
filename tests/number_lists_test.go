package tests

import (
	"math"
	"slices"
	"testing"

	"loop.example/toricfans/impl"
)

// TestNumberLists counts the lists of each kind.
func TestNumberLists(t *testing.T) {
	kinds, sizes := map[string]int{}, map[int]int{}
	for _, list := range numberLists() {
		kind := kindOfList(list)
		kinds[kind]++
		if kind == "closes" {
			sizes[len(list)]++
		}
	}
	for _, kind := range []string{
		"no list", "leads back over what is no vector", "has what is no vector", "has what is no vector just behind the last ray",
		"does not lead back", "leads round more than once", "closes",
	} {
		atLeast(t, kinds[kind], 100)
	}
	if len(kinds) != 7 {
		t.Errorf("the kinds are %v", kinds)
	}
	atLeast(t, sizes[3], 1)
	for size := 4; size <= 20; size++ {
		atLeast(t, sizes[size], 20)
	}
}

func checkNumbersFan(t *testing.T, list []int) {
	t.Helper()
	due, valid := fanOfNumbers(list)
	got, ok := impl.NumbersFan(list)
	if ok != valid || !slices.Equal(got, due) {
		t.Errorf("NumbersFan(%v) returned %v, %v, not %v, %v", list, got, ok, due, valid)
	}
}

func TestNumbersFan(t *testing.T) {
	for _, list := range numberLists() {
		checkNumbersFan(t, list)
	}
}

// firstMat returns the matrix that moves the first two rays of a smooth fan to 1, 0 and 0, 1.
func firstMat(f Fan) Mat {
	return Mat{A: f[1].Y, B: -f[1].X, C: -f[0].Y, D: f[0].X}
}

// TestNumbersFanOfFans moves each fan so that it begins as the fan of its numbers does.
func TestNumbersFanOfFans(t *testing.T) {
	told, beyond := 0, 0
	for _, f := range surfaceFans() {
		if !isSmooth(f) {
			continue
		}
		numbers := numbersOfFan(f)
		var due Fan
		for _, a := range f {
			due = append(due, moved(firstMat(f), a))
		}
		valid := areNumbers(numbers, 20, -100) && areVecs(due)
		got, ok := impl.NumbersFan(numbers)
		checkFan(t, "NumbersFan of the numbers", f, numbers, got, ok, due, valid)
		if valid {
			told++
		} else {
			beyond++
		}
	}
	atLeast(t, told, 5000)
	atLeast(t, beyond, 50)
}

func TestNumbersFanOfSome(t *testing.T) {
	cases := []struct {
		list []int
		due  Fan
	}{
		{[]int{1, 1, 1}, planeFan()},
		{[]int{0, 0, 0, 0}, kindFan(0)},
		{[]int{0, -3, 0, 3}, kindFan(3)},
		{[]int{0, 3, 0, -3}, kindFan(-3)},
		{[]int{3, 0, -3, 0}, fan(1, 0, 0, 1, -1, 0, -3, -1)},
		{[]int{0, -100, 0, 100}, kindFan(100)},
		{[]int{0, 100, 0, -100}, kindFan(-100)},
		{[]int{-100, 0, 100, 0}, fan(1, 0, 0, 1, -1, 0, 100, -1)},
		{[]int{0, -1, 0, 1}, kindFan(1)},
		{[]int{-1, -1, -1, -1, -1, -1}, fan(1, 0, 0, 1, -1, 1, -1, 0, 0, -1, 1, -1)},
		{[]int{0, -1, -1, -1, 0}, fan(1, 0, 0, 1, -1, 1, -1, 0, 0, -1)},
		{[]int{0, -101, 0, 101}, nil},
		{[]int{101, 0, -101, 0}, nil},
		{[]int{0, -100, 0, 101}, nil},
		{[]int{0, -101, 0, 100}, nil},
		{[]int{1, 1, 2}, nil},
		{[]int{1, 2, 1}, nil},
		{[]int{2, 1, 1}, nil},
		{[]int{0, 0, 0}, nil},
		{[]int{0, 0, 0, 1}, nil},
		{[]int{1, 0, 0, 0}, nil},
		{[]int{0, 0, 0, 0, 0}, nil},
		{[]int{0, 1, 0, 1}, nil},
		{[]int{0, 0, 0, 0, 0, 0, 0, 0}, nil},
		{[]int{1, 1, 1, 1, 1, 1}, nil},
		{filled(18, 1), nil},
		{filled(20, 0), nil},
		{filled(20, 1), nil},
		{[]int{100, 100, 100}, nil},
		{[]int{0, 32, 32, 0}, nil},
		{filled(20, 100), nil},
		{filled(20, -100), nil},
		{filled(20, -2), nil},
		{[]int{1, 1}, nil},
		{[]int{0, 0}, nil},
		{[]int{1}, nil},
		{[]int{}, nil},
		{nil, nil},
		{filled(21, 0), nil},
		{filled(24, 0), nil},
		{filled(21, 1), nil},
		{[]int{1, 1, math.MaxInt}, nil},
		{[]int{math.MinInt, 1, 1}, nil},
		{[]int{1, math.MinInt, 1}, nil},
		{filled(3, math.MinInt), nil},
		{filled(1000000, 0), nil},
	}
	for _, c := range cases {
		got, ok := impl.NumbersFan(c.list)
		if ok != (c.due != nil) || !slices.Equal(got, c.due) {
			t.Errorf("NumbersFan of %d numbers returned %v, %v, not %v", len(c.list), got, ok, c.due)
		}
	}
}

// TestNumbersFanOfTwentyNumbers has just as many numbers as a fan has rays, and one more.
func TestNumbersFanOfTwentyNumbers(t *testing.T) {
	times := 0
	for step := 3; step <= 7; step++ {
		for _, f := range allTurns(longFan(20, step)) {
			list := numbersOfFan(f)
			checkNumbersFan(t, list)
			if got, ok := impl.NumbersFan(list); ok && len(got) == 20 {
				times++
			}
			for i := range list {
				if got, ok := impl.NumbersFan(blownList(list, i)); ok || len(got) != 0 {
					t.Errorf("NumbersFan(%v) returned %v, %v", blownList(list, i), got, ok)
				}
			}
		}
	}
	atLeast(t, times, 50)
}

// towards blows a fan with four rays up beside the ray -1, k again and again, on the one side or on the other one.
func towards(k int, blowups int, behind bool) Fan {
	f := kindFan(k)
	for i := range blowups {
		if behind {
			f = blownUp(f, 2)
		} else {
			f = blownUp(f, 1+i)
		}
	}
	return f
}

// TestNumbersFanAtTheLimitOfVectors has rays with 1000 in size as the greatest number, and rays with 1001, as X and as Y.
func TestNumbersFanAtTheLimitOfVectors(t *testing.T) {
	within, beyond := 0, 0
	for n := range 201 * 16 * 2 {
		f := towards(n%201-100, 1+n/201%16, n >= 201*16)
		size := sizeOf(f)
		if size != 1000 && size != 1001 {
			continue
		}
		list := numbersOfFan(f)
		for _, other := range [][]int{list, reversed(turned(list, 2))} {
			got, ok := impl.NumbersFan(other)
			if ok != (size == 1000) || ok && sizeOf(got) != 1000 {
				t.Errorf("NumbersFan(%v) returned %v, %v, but the greatest number is %d", other, got, ok, size)
			}
			checkNumbersFan(t, other)
		}
		if size == 1000 {
			within++
		} else {
			beyond++
		}
	}
	atLeast(t, within, 4)
	atLeast(t, beyond, 2)
}

// TestNumbersFanJustBehindTheLastRay has lists of which all rays are vectors, but not the one behind the last ray, or the one behind that.
func TestNumbersFanJustBehindTheLastRay(t *testing.T) {
	first, second := 0, 0
	for _, list := range listsBehind() {
		all := raysOfNumbers(list)
		n := len(list)
		if !areVecs(all[:n]) {
			continue
		}
		if !isVec(all[n]) {
			first++
		} else if !isVec(all[n+1]) {
			second++
		}
		checkNumbersFan(t, list)
	}
	atLeast(t, first, 50)
	atLeast(t, second, 2)
}

func checkNumbersSum(t *testing.T, f Fan) {
	t.Helper()
	due := 0
	if isSmooth(f) {
		for _, n := range numbersOfFan(f) {
			due += n + 3
		}
	}
	got, ok := impl.NumbersSum(f)
	checkNumber(t, "NumbersSum", f, nil, nil, got, ok, due, isSmooth(f))
	if ok && got != 12 {
		t.Errorf("NumbersSum(%v) returned %d", f, got)
	}
}

func TestNumbersSum(t *testing.T) {
	for _, f := range surfaceFans() {
		checkNumbersSum(t, f)
	}
}

func checkNumbersBlow(t *testing.T, list []int, i int) {
	t.Helper()
	var due []int
	valid := areNumbers(list, 19, -99) && i >= 0 && i < len(list)
	if valid {
		due = blownList(list, i)
	}
	if got, ok := impl.NumbersBlow(list, i); ok != valid || !slices.Equal(got, due) {
		t.Errorf("NumbersBlow(%v, %d) returned %v, %v, not %v, %v", list, i, got, ok, due, valid)
	}
}

// indexesOf has all indexes of a list, some beyond both ends, and the least and the greatest int.
func indexesOf(list []int) []int {
	return edgeIndexes(make(Fan, len(list)))
}

func TestNumbersBlow(t *testing.T) {
	kinds := map[string]int{}
	for k, list := range numberLists() {
		for _, i := range append(indexesOf(list[:min(len(list), 24)]), len(list)-1, len(list)) {
			checkNumbersBlow(t, list, i)
		}
		if _, ok := impl.NumbersBlow(list, k%max(1, len(list))); ok {
			kinds[kindOfList(list)]++
		}
	}
	for _, kind := range []string{
		"leads back over what is no vector", "has what is no vector", "has what is no vector just behind the last ray",
		"does not lead back", "leads round more than once", "closes",
	} {
		atLeast(t, kinds[kind], 50)
	}
}

// TestNumbersBlowAtTheLimits puts numbers at each place, whether they are changed or not.
func TestNumbersBlowAtTheLimits(t *testing.T) {
	told := 0
	for _, size := range []int{2, 3, 4, 7, 18, 19, 20, 21} {
		for place := range size {
			for _, n := range greatNumbers() {
				list := with(mixedNumbers(size), place, n)
				for i := range size {
					checkNumbersBlow(t, list, i)
					if _, ok := impl.NumbersBlow(list, i); ok {
						told++
					}
				}
			}
		}
	}
	atLeast(t, told, 3000)
}

// mixedNumbers has small numbers, each next two different.
func mixedNumbers(size int) []int {
	var list []int
	for i := range size {
		list = append(list, i*i%7-3)
	}
	return list
}

func TestNumbersBlowOfSome(t *testing.T) {
	long := mixedNumbers(19)
	cases := []struct {
		list []int
		i    int
		due  []int
	}{
		{[]int{1, 1, 1}, 0, []int{0, -1, 0, 1}},
		{[]int{1, 1, 1}, 1, []int{1, 0, -1, 0}},
		{[]int{1, 1, 1}, 2, []int{0, 1, 0, -1}},
		{[]int{1, 1, 1}, 3, nil},
		{[]int{1, 1, 1}, -1, nil},
		{[]int{1, 1, 1}, math.MinInt, nil},
		{[]int{1, 1, 1}, math.MaxInt, nil},
		{[]int{5, -7, 30}, 0, []int{4, -1, -8, 30}},
		{[]int{5, -7, 30}, 2, []int{4, -7, 29, -1}},
		{[]int{10, 20, 30, 40}, 1, []int{10, 19, -1, 29, 40}},
		{[]int{10, 20, 30, 40}, 3, []int{9, 20, 30, 39, -1}},
		{[]int{-99, 100, -99}, 0, []int{-100, -1, 99, -99}},
		{[]int{-99, 100, -99}, 2, []int{-100, 100, -100, -1}},
		{[]int{100, 100, 100}, 1, []int{100, 99, -1, 99}},
		{[]int{-100, 0, 0, 0}, 0, nil},
		{[]int{-100, 0, 0, 0}, 1, nil},
		{[]int{-100, 0, 0, 0}, 2, nil},
		{[]int{-100, 0, 0, 0}, 3, nil},
		{[]int{0, 0, 0, -100}, 1, nil},
		{[]int{0, 101, 0, 0}, 1, nil},
		{[]int{0, 101, 0, 0}, 2, nil},
		{[]int{0, 0, 101, 0}, 0, nil},
		{[]int{0, math.MinInt, 0, 0}, 1, nil},
		{[]int{0, math.MaxInt, 0, 0}, 1, nil},
		{[]int{1, 1}, 0, nil},
		{[]int{1, 1}, 1, nil},
		{[]int{1}, 0, nil},
		{[]int{}, 0, nil},
		{nil, 0, nil},
		{nil, -1, nil},
		{long, 18, blownList(long, 18)},
		{long, 0, blownList(long, 0)},
		{long, 19, nil},
		{mixedNumbers(20), 0, nil},
		{mixedNumbers(20), 19, nil},
		{mixedNumbers(21), 0, nil},
		{mixedNumbers(1000000), 5, nil},
	}
	for _, c := range cases {
		got, ok := impl.NumbersBlow(c.list, c.i)
		if ok != (c.due != nil) || !slices.Equal(got, c.due) {
			t.Errorf("NumbersBlow of %d numbers at %d returned %v, %v, not %v", len(c.list), c.i, got, ok, c.due)
		}
	}
}
