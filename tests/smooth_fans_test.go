package tests

import (
	"math"
	"slices"
	"testing"

	"loop.example/toricfans/impl"
)

// numbersOfFan searches for the numbers by which both neighbours of each ray add up to it times the number, with the opposite sign.
func numbersOfFan(f Fan) []int {
	var list []int
	for i, a := range f {
		sum := Vec{X: lastOf(f, i).X + nextOf(f, i).X, Y: lastOf(f, i).Y + nextOf(f, i).Y}
		n := -2000
		for n < 2000 && sum != (Vec{X: -n * a.X, Y: -n * a.Y}) {
			n++
		}
		list = append(list, n)
	}
	return list
}

func TestFanNumbers(t *testing.T) {
	for _, f := range fansAndNone() {
		var due []int
		if isSmooth(f) {
			due = numbersOfFan(f)
		}
		if got, ok := impl.FanNumbers(f); ok != isSmooth(f) || !slices.Equal(got, due) {
			t.Errorf("FanNumbers(%v) returned %v, %v, not %v", f, got, ok, due)
		}
	}
}

func TestFanNumbersOfSome(t *testing.T) {
	cases := []struct {
		f   Fan
		due []int
	}{
		{planeFan(), []int{1, 1, 1}},
		{fan(-1, -1, 1, 0, 0, 1), []int{1, 1, 1}},
		{kindFan(0), []int{0, 0, 0, 0}},
		{kindFan(3), []int{0, -3, 0, 3}},
		{fan(0, -1, 1, 0, 0, 1, -1, 3), []int{3, 0, -3, 0}},
		{kindFan(-1000), []int{0, 1000, 0, -1000}},
		{fan(1000, -1, 1, 0, 1000, 1, -1, 0), []int{0, -2000, 0, 2000}},
		{fan(1, 0, 1, 1, 0, 1, -1, -1), []int{0, -1, 0, 1}},
		{fan(1, 0, 1, 1, 0, 1, -1, 0, -1, -1, 0, -1), []int{-1, -1, -1, -1, -1, -1}},
		{fan(1, 0, 0, 1, -1, -2), nil},
		{reversedFan(planeFan()), nil},
	}
	for _, c := range cases {
		if got, ok := impl.FanNumbers(c.f); ok != (c.due != nil) || !slices.Equal(got, c.due) {
			t.Errorf("FanNumbers(%v) returned %v, %v", c.f, got, ok)
		}
	}
}

// blowOf returns the fan blown up at a cone, and whether it can be.
func blowOf(f Fan, i int) (Fan, bool) {
	if !isSmooth(f) || i < 0 || i >= len(f) || !isFan(blownUp(f, i)) {
		return nil, false
	}
	return blownUp(f, i), true
}

func TestFanBlow(t *testing.T) {
	for _, f := range fansAndNone() {
		for _, i := range edgeIndexes(f) {
			due, valid := blowOf(f, i)
			got, ok := impl.FanBlow(f, i)
			checkFan(t, "FanBlow", f, i, got, ok, due, valid)
		}
	}
}

func TestFanBlowOfSome(t *testing.T) {
	cases := []struct {
		f   Fan
		i   int
		due Fan
	}{
		{planeFan(), 0, fan(1, 0, 1, 1, 0, 1, -1, -1)},
		{planeFan(), 1, fan(1, 0, 0, 1, -1, 0, -1, -1)},
		{planeFan(), 2, fan(1, 0, 0, 1, -1, -1, 0, -1)},
		{fan(0, 1, -1, -1, 1, 0), 2, fan(0, 1, -1, -1, 1, 0, 1, 1)},
		{fan(-1, -1, 1, 0, 0, 1), 2, fan(-1, -1, 1, 0, 0, 1, -1, 0)},
		{planeFan(), 3, nil},
		{planeFan(), -1, nil},
		{planeFan(), math.MinInt, nil},
		{planeFan(), math.MaxInt, nil},
		{fan(1, 0, 0, 1, -1, -2), 0, nil},
		{kindFan(999), 1, fan(1, 0, 0, 1, -1, 1000, -1, 999, 0, -1)},
		{kindFan(1000), 1, nil},
		{kindFan(1000), 2, fan(1, 0, 0, 1, -1, 1000, -1, 999, 0, -1)},
		{kindFan(-1000), 2, nil},
		{kindFan(-1000), 3, fan(1, 0, 0, 1, -1, -1000, 0, -1, 1, -1)},
		{fan(0, 1, -1, -1000, 0, -1, 1, 1000), 3, nil},
		{fan(0, 1, -1, -1000, 0, -1, 1, 1000), 1, nil},
		{fan(1, 1000, 0, 1, -1, -1000, 0, -1), 0, nil},
		{fan(0, -1, 1, 1000, 0, 1, -1, -1000), 3, nil},
		{fan(1000, -1, 1, 0, 1000, 1, -1, 0), 0, nil},
		{fan(1000, -1, 1, 0, 1000, 1, -1, 0), 2, fan(1000, -1, 1, 0, 1000, 1, 999, 1, -1, 0)},
	}
	for _, c := range cases {
		got, ok := impl.FanBlow(c.f, c.i)
		checkFan(t, "FanBlow", c.f, c.i, got, ok, c.due, c.due != nil)
	}
}

func TestFanBlowOfTwentyRays(t *testing.T) {
	for step := 3; step <= 7; step += 2 {
		for _, f := range allTurns(longFan(20, step)) {
			for i := range f {
				got, ok := impl.FanBlow(f, i)
				checkFan(t, "FanBlow", f, i, got, ok, nil, false)
			}
		}
		f := longFan(19, step)
		for i := range f {
			if got, ok := impl.FanBlow(f, i); !ok || len(got) != 20 || !isSmooth(got) {
				t.Errorf("FanBlow(%v, %d) returned %v, %v", f, i, got, ok)
			}
		}
	}
}

// downOf returns the fan with a ray blown down, and whether it can be.
func downOf(f Fan, i int) (Fan, bool) {
	if !isSmooth(f) || i < 0 || i >= len(f) || numbersOfFan(f)[i] != -1 || len(f) < 4 {
		return nil, false
	}
	return slices.Delete(slices.Clone(f), i, i+1), true
}

func TestFanDown(t *testing.T) {
	times := 0
	for _, f := range fansAndNone() {
		for _, i := range edgeIndexes(f) {
			due, valid := downOf(f, i)
			got, ok := impl.FanDown(f, i)
			checkFan(t, "FanDown", f, i, got, ok, due, valid)
			if valid {
				times++
			}
		}
	}
	atLeast(t, times, 500)
}

func TestFanDownOfSome(t *testing.T) {
	six := fan(1, 0, 1, 1, 0, 1, -1, 0, -1, -1, 0, -1)
	cases := []struct {
		f   Fan
		i   int
		due Fan
	}{
		{six, 0, fan(1, 1, 0, 1, -1, 0, -1, -1, 0, -1)},
		{six, 3, fan(1, 0, 1, 1, 0, 1, -1, -1, 0, -1)},
		{six, 5, fan(1, 0, 1, 1, 0, 1, -1, 0, -1, -1)},
		{six, 6, nil},
		{six, -1, nil},
		{six, math.MinInt, nil},
		{six, math.MaxInt, nil},
		{kindFan(1), 1, fan(1, 0, -1, 1, 0, -1)},
		{turnedTo(kindFan(1), 1), 0, fan(-1, 1, 0, -1, 1, 0)},
		{turnedTo(kindFan(1), 2), 3, fan(-1, 1, 0, -1, 1, 0)},
		{kindFan(1), 0, nil},
		{kindFan(1), 3, nil},
		{kindFan(0), 0, nil},
		{kindFan(2), 1, nil},
		{planeFan(), 0, nil},
		{planeFan(), 1, nil},
		{planeFan(), 2, nil},
		{fan(1, 0, 1, 1, 0, 1, -1, -2), 1, nil},
	}
	for _, c := range cases {
		got, ok := impl.FanDown(c.f, c.i)
		checkFan(t, "FanDown", c.f, c.i, got, ok, c.due, c.due != nil)
	}
}

// leastOf blows down by downOf the first ray that can be, again and again.
func leastOf(f Fan) Fan {
	for i := range f {
		if g, ok := downOf(f, i); ok {
			return leastOf(g)
		}
	}
	return sortedFan(f)
}

func TestFanLeast(t *testing.T) {
	for _, f := range fansAndNone() {
		got, ok := impl.FanLeast(f)
		checkFan(t, "FanLeast", f, nil, got, ok, leastOf(f), isSmooth(f))
	}
}

func TestFanLeastOfSome(t *testing.T) {
	six := fan(1, 0, 1, 1, 0, 1, -1, 0, -1, -1, 0, -1)
	cases := []struct{ f, due Fan }{
		{planeFan(), planeFan()},
		{fan(0, 1, -1, -1, 1, 0), planeFan()},
		{kindFan(0), kindFan(0)},
		{turnedTo(kindFan(2), 3), kindFan(2)},
		{turnedTo(kindFan(-7), 1), kindFan(-7)},
		{kindFan(1), fan(1, 0, -1, 1, 0, -1)},
		{six, fan(1, 1, -1, 0, 0, -1)},
		{turnedTo(six, 1), fan(1, 0, 0, 1, -1, -1)},
		{turnedTo(six, 5), fan(1, 0, 0, 1, -1, -1)},
		{fan(1, 0, 1, 1, 0, 1, -1, 0, 0, -1), fan(1, 1, -1, 0, 0, -1)},
		{fan(1, 1, 0, 1, -1, 0, 0, -1, 1, 0), fan(1, 0, 0, 1, -1, 0, 0, -1)},
		{fan(0, 1, -1, 0, 0, -1, 1, 0, 1, 1), fan(1, 1, -1, 0, 0, -1)},
		{reversedFan(six), nil},
		{fan(1, 0, 0, 1, -1, -2), nil},
	}
	for _, c := range cases {
		got, ok := impl.FanLeast(c.f)
		checkFan(t, "FanLeast", c.f, nil, got, ok, c.due, c.due != nil)
	}
}

// kindOfFan returns the kind of a smooth fan as the document tells it, and whether there is one.
func kindOfFan(f Fan) (int, bool) {
	if !isSmooth(f) {
		return 0, false
	}
	numbers := numbersOfFan(f)
	if slices.Equal(numbers, []int{1, 1, 1}) {
		return -1, true
	}
	for k := 0; k <= 2000; k++ {
		for i := range numbers {
			if slices.Equal(slices.Concat(numbers[i:], numbers[:i]), []int{0, k, 0, -k}) {
				return k, true
			}
		}
		if len(f) != 4 {
			break
		}
	}
	return 0, false
}

func TestFanKind(t *testing.T) {
	for _, f := range fansAndNone() {
		due, valid := kindOfFan(f)
		if got, ok := impl.FanKind(f); ok != valid || got != due {
			t.Errorf("FanKind(%v) returned %d, %v, not %d, %v", f, got, ok, due, valid)
		}
	}
}

func TestFanKindOfSome(t *testing.T) {
	for _, f := range allTurns(planeFan()) {
		if got, ok := impl.FanKind(f); !ok || got != -1 {
			t.Errorf("FanKind(%v) returned %d, %v", f, got, ok)
		}
	}
	for k := -1000; k <= 1000; k++ {
		for _, f := range allTurns(kindFan(k)) {
			if got, ok := impl.FanKind(f); !ok || got != max(k, -k) {
				t.Errorf("FanKind(%v) returned %d, %v", f, got, ok)
			}
		}
	}
	for _, f := range allTurns(fan(1000, -1, 1, 0, 1000, 1, -1, 0)) {
		if got, ok := impl.FanKind(f); !ok || got != 2000 {
			t.Errorf("FanKind(%v) returned %d, %v", f, got, ok)
		}
	}
	for _, f := range []Fan{
		longFan(5, 1), longFan(20, 5), fan(1, 0, 0, 1, -1, -2), fan(1, 2, -2, 1, -1, -2, 2, -1),
		reversedFan(planeFan()), reversedFan(kindFan(0)), nil, kindFan(0)[:2],
	} {
		if got, ok := impl.FanKind(f); ok || got != 0 {
			t.Errorf("FanKind(%v) returned %d, %v", f, got, ok)
		}
	}
}

// buildOf blows the fan of the plane up by blowOf.
func buildOf(list []int) (Fan, bool) {
	f, ok := planeFan(), true
	for _, i := range list {
		if f, ok = blowOf(f, i); !ok {
			return nil, false
		}
	}
	return f, true
}

func checkFanBuild(t *testing.T, list []int) {
	t.Helper()
	due, valid := buildOf(list)
	got, ok := impl.FanBuild(list)
	if ok != valid || !slices.Equal(got, due) {
		t.Errorf("FanBuild(%v) returned %v, %v, not %v, %v", list, got, ok, due, valid)
	}
}

// builds has lists of at most four indexes, some of them beyond the last one, and below 0.
func builds() [][]int {
	lists := [][]int{nil}
	for from := 0; len(lists[from]) < 4; from++ {
		for i := -1; i <= len(lists[from])+3; i++ {
			lists = append(lists, append(slices.Clone(lists[from]), i))
		}
	}
	return lists
}

// longBuilds has lists of indexes for up to 20 rays and more, and such that lead beyond the range.
func longBuilds() [][]int {
	var lists [][]int
	for size := 0; size <= 19; size++ {
		var list, inwards, outwards []int
		for i := range size {
			list = append(list, i*5%(i+3))
			inwards = append(inwards, (i+1)/2)
			outwards = append(outwards, i+2)
		}
		lists = append(lists, list, inwards, outwards, make([]int, size))
	}
	return lists
}

func TestFanBuild(t *testing.T) {
	for _, list := range slices.Concat(builds(), longBuilds()) {
		checkFanBuild(t, list)
		for _, i := range []int{-1, len(list) + 2, len(list) + 3, math.MinInt, math.MaxInt} {
			checkFanBuild(t, append(slices.Clone(list), i))
			checkFanBuild(t, append([]int{i}, list...))
		}
	}
	checkFanBuild(t, make([]int, 100000))
}

func TestFanBuildOfSome(t *testing.T) {
	cases := []struct {
		list []int
		due  Fan
	}{
		{nil, planeFan()},
		{[]int{}, planeFan()},
		{[]int{0}, fan(1, 0, 1, 1, 0, 1, -1, -1)},
		{[]int{2}, fan(1, 0, 0, 1, -1, -1, 0, -1)},
		{[]int{2, 3}, fan(1, 0, 0, 1, -1, -1, 0, -1, 1, -1)},
		{[]int{0, 2, 4}, fan(1, 0, 1, 1, 0, 1, -1, 0, -1, -1, 0, -1)},
		{[]int{3}, nil},
		{[]int{-1}, nil},
		{[]int{0, 4}, nil},
		{[]int{0, 0, 0, math.MinInt}, nil},
		{[]int{math.MaxInt, 0}, nil},
	}
	for _, c := range cases {
		got, ok := impl.FanBuild(c.list)
		if ok != (c.due != nil) || !slices.Equal(got, c.due) {
			t.Errorf("FanBuild(%v) returned %v, %v", c.list, got, ok)
		}
	}
}

// The numbers of the rays grow as those of Fibonacci: the first sum beyond 1000 comes with the 16th index, before there are 21 rays.
func TestFanBuildLeavesTheRange(t *testing.T) {
	var list []int
	for i := range 16 {
		list = append(list, (i+1)/2)
	}
	if f, ok := impl.FanBuild(list[:15]); !ok || len(f) != 18 || !slices.Contains(f, Vec{X: 987, Y: 610}) && !slices.Contains(f, Vec{X: 610, Y: 987}) {
		t.Errorf("FanBuild(%v) returned %v, %v", list[:15], f, ok)
	}
	if f, ok := impl.FanBuild(list); ok || len(f) != 0 {
		t.Errorf("FanBuild(%v) returned %v, %v", list, f, ok)
	}
	if f, ok := impl.FanBuild(make([]int, 17)); !ok || len(f) != 20 {
		t.Errorf("FanBuild of 17 indexes returned %v, %v", f, ok)
	}
	if f, ok := impl.FanBuild(make([]int, 18)); ok || len(f) != 0 {
		t.Errorf("FanBuild of 18 indexes returned %v, %v", f, ok)
	}
}
