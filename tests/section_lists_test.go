package tests

import (
	"math"
	"slices"
	"testing"

	"loop.example/toricfans/impl"
)

// checkList tells of the first section that is not as it should be, for there may be thousands.
func checkList(t *testing.T, f Fan, d Divisor, got []Vec, ok bool, due []Vec, told bool) {
	t.Helper()
	if ok != told || len(got) != len(due) {
		t.Errorf("SectionList(%v, %v) returned %d sections, %v, not %d, %v", f, d, len(got), ok, len(due), told)
		return
	}
	for i, m := range got {
		if m != due[i] {
			t.Errorf("SectionList(%v, %v) returned %v as section %d, not %v", f, d, m, i, due[i])
			return
		}
	}
}

func checkOn(t *testing.T, f Fan, d Divisor, ray int, due int, told bool) {
	t.Helper()
	got, ok := impl.SectionOn(f, d, ray)
	checkNumber(t, "SectionOn", f, d, ray, got, ok, due, told)
}

// checkSections holds all functions that list or count sections against those that are due, if they are told.
func checkSections(t *testing.T, f Fan, d Divisor, due []Vec, told bool) {
	t.Helper()
	if !told {
		due = nil
	}
	list, ok := impl.SectionList(f, d)
	checkList(t, f, d, list, ok, due, told)
	n, ok := impl.SectionCount(f, d)
	checkNumber(t, "SectionCount", f, d, nil, n, ok, len(due), told)
	on, inner := onOf(f, d, due)
	n, ok = impl.SectionInner(f, d)
	checkNumber(t, "SectionInner", f, d, nil, n, ok, inner, told)
	for i := range f {
		checkOn(t, f, d, i, on[i], told)
	}
	for _, i := range []int{-1, len(f), math.MinInt, math.MaxInt} {
		checkOn(t, f, d, i, 0, false)
	}
}

func TestSections(t *testing.T) {
	told, beyond := 0, 0
	for i, f := range divisorFans() {
		list := goodDivisors(f)
		for k := i % 2; k < len(list); k += 2 {
			d := list[k]
			if limitsOf(f, d).areTold() {
				told++
				checkSections(t, f, d, sectionsOf(f, d), true)
			} else {
				beyond++
				checkSections(t, f, d, nil, false)
			}
		}
	}
	atLeast(t, told, 4000)
	atLeast(t, beyond, 1000)
}

func TestSectionListOfSome(t *testing.T) {
	six := fan(1, 0, 1, 1, 0, 1, -1, 0, -1, -1, 0, -1)
	five := fan(1, 0, 1, 1, 0, 1, -1, 0, 0, -1)
	cases := []struct {
		f   Fan
		d   Divisor
		due []Vec
	}{
		{planeFan(), Divisor{1, 1, 1}, fan(-1, -1, -1, 0, -1, 1, -1, 2, 0, -1, 0, 0, 0, 1, 1, -1, 1, 0, 2, -1)},
		{turnedTo(planeFan(), 2), Divisor{1, 0, 0}, fan(0, 0, 0, 1, 1, 0)},
		{planeFan(), Divisor{0, 0, 0}, fan(0, 0)},
		{planeFan(), Divisor{5, -7, 2}, fan(-5, 7)},
		{kindFan(0), Divisor{1, 0, 0, 2}, fan(-1, 0, -1, 1, -1, 2, 0, 0, 0, 1, 0, 2)},
		{kindFan(2), Divisor{0, 0, 0, 1}, fan(0, 0, 0, 1, 1, 1, 2, 1)},
		{kindFan(2), Divisor{0, 1, 0, 0}, fan(0, 0)},
		{kindFan(2), Divisor{1, 1, 0, 0}, fan(-1, 0, 0, 0)},
		{turnedTo(kindFan(2), 3), Divisor{1, 0, 0, 0}, fan(0, 0, 0, 1, 1, 1, 2, 1)},
		{six, filled(6, 1), fan(-1, 0, -1, 1, 0, -1, 0, 0, 0, 1, 1, -1, 1, 0)},
		{six, Divisor{1, 1, 1, 1, 0, 1}, fan(-1, 0, -1, 1, 0, -1, 0, 0, 1, -1)},
		{planeFan(), Divisor{0, 0, -1}, nil},
		{planeFan(), Divisor{-100, -100, -100}, nil},
		{kindFan(0), Divisor{0, 5, -1, 5}, nil},
		{kindFan(0), Divisor{5, 0, 5, -1}, nil},
		{kindFan(0), Divisor{-51, -51, -50, -50}, nil},
		{five, Divisor{0, -3, 0, 1, 1}, nil},
		{five, Divisor{0, -2, 0, 1, 1}, fan(1, 1)},
		{six, Divisor{0, -5, 0, 1, -4, 1}, nil},
	}
	for _, c := range cases {
		checkSections(t, c.f, c.d, c.due, true)
	}
}

// TestSectionCountOfSome has the numbers of sections, of inner ones, and of those on each ray.
func TestSectionCountOfSome(t *testing.T) {
	cases := []struct {
		f            Fan
		d            Divisor
		count, inner int
		on           []int
	}{
		{planeFan(), Divisor{1, 1, 1}, 10, 1, []int{4, 4, 4}},
		{planeFan(), Divisor{50, 40, 7}, 4851, 4560, []int{98, 98, 98}},
		{planeFan(), Divisor{-100, 50, 51}, 3, 0, []int{2, 2, 2}},
		{planeFan(), Divisor{50, 50, -100}, 1, 0, []int{1, 1, 1}},
		{kindFan(0), Divisor{1, 2, 3, 4}, 35, 15, []int{7, 5, 7, 5}},
		{kindFan(0), Divisor{1, 2, -1, 4}, 7, 0, []int{7, 1, 7, 1}},
		{kindFan(3), Divisor{0, 0, 0, 2}, 12, 2, []int{3, 1, 3, 7}},
		{kindFan(3), Divisor{1, 1, 0, 1}, 7, 0, []int{2, 0, 2, 5}},
		{turnedTo(kindFan(3), 2), Divisor{0, 1, 1, 1}, 7, 0, []int{2, 5, 2, 0}},
		{planeFan(), Divisor{0, 0, -1}, 0, 0, []int{0, 0, 0}},
	}
	for _, c := range cases {
		n, ok := impl.SectionCount(c.f, c.d)
		checkNumber(t, "SectionCount", c.f, c.d, nil, n, ok, c.count, true)
		n, ok = impl.SectionInner(c.f, c.d)
		checkNumber(t, "SectionInner", c.f, c.d, nil, n, ok, c.inner, true)
		for i, due := range c.on {
			checkOn(t, c.f, c.d, i, due, true)
		}
	}
}

// quarterTurns has a fan and all quarter turns of it: the bound of one direction becomes that of the next one.
func quarterTurns(f Fan) []Fan {
	list := []Fan{f}
	for range 3 {
		var next Fan
		for _, a := range list[len(list)-1] {
			next = append(next, Vec{X: -a.Y, Y: a.X})
		}
		list = append(list, next)
	}
	return list
}

// checkTold holds against the sections found without a box what a fan, from any ray on and turned any way, tells of them.
// Where it tells nothing of them, it still has the box, the sections themselves, and corners for nef divisors.
func checkTold(t *testing.T, f Fan, d Divisor, told bool) {
	t.Helper()
	for _, turned := range quarterTurns(f) {
		for i := range turned {
			g, e := turnedTo(turned, i), slices.Concat(d[i:], d[:i])
			if limitsOf(g, e).areTold() != told {
				t.Errorf("the box %v of %v of %v is not as listed", limitsOf(g, e), e, g)
			}
			checkSections(t, g, e, sectionsOf(g, e), told)
			checkBox(t, g, e, limitsOf(g, e), true)
			for _, m := range around(g, e) {
				checkHas(t, g, e, m, isSection(g, e, m))
			}
			checkCorners(t, g, e)
		}
	}
}

// TestSectionsAtTheLimitOfBoxes has boxes with 10000 vectors and with a few more; 10001 is 73 times 137.
func TestSectionsAtTheLimitOfBoxes(t *testing.T) {
	cases := []struct {
		f    Fan
		d    Divisor
		told bool
	}{
		{planeFan(), Divisor{33, 33, 33}, true},
		{planeFan(), Divisor{33, 33, 34}, false},
		{planeFan(), Divisor{100, 99, -100}, true},
		{planeFan(), Divisor{100, 100, -100}, false},
		{planeFan(), Divisor{100, -100, 99}, true},
		{planeFan(), Divisor{-100, 100, 100}, false},
		{kindFan(0), Divisor{0, 0, 99, 99}, true},
		{kindFan(0), Divisor{50, 1, 49, 98}, true},
		{kindFan(0), Divisor{50, 1, 49, 99}, false},
		{kindFan(0), Divisor{36, 36, 36, 100}, false},
		{kindFan(0), Divisor{100, 36, -28, 100}, false},
		{kindFan(0), Divisor{100, 24, 99, 25}, true},
		{kindFan(0), Divisor{100, 24, 100, 25}, false},
		{kindFan(0), Divisor{100, 24, 100, 24}, true},
		{kindFan(0), Divisor{-100, -100, -100, -100}, true},
		{kindFan(0), Divisor{-51, -51, -50, -50}, true},
		{kindFan(0), Divisor{100, -100, 100, -100}, true},
		{kindFan(5), Divisor{0, 9, 99, 80}, false},
		{kindFan(5), Divisor{0, -61, 99, 80}, true},
		{kindFan(5), Divisor{0, -60, 99, 80}, false},
		{kindFan(5), Divisor{1, -61, 98, 80}, true},
		{kindFan(5), Divisor{1, -61, 99, 80}, false},
	}
	for _, c := range cases {
		checkTold(t, c.f, c.d, c.told)
	}
}

// TestSectionsAtTheLimitOfBounds has bounds of 1000 and of 1001 in size, with boxes that have few vectors or none.
func TestSectionsAtTheLimitOfBounds(t *testing.T) {
	cases := []struct {
		f    Fan
		d    Divisor
		told bool
	}{
		{kindFan(10), Divisor{0, -92, 0, 100}, true},
		{kindFan(10), Divisor{0, -92, 1, 100}, false},
		{kindFan(10), Divisor{0, -100, 0, 100}, true},
		{kindFan(10), Divisor{0, -100, 1, 100}, false},
		{kindFan(10), Divisor{-100, -100, 0, 100}, true},
		{kindFan(10), Divisor{-100, -100, 1, 100}, false},
		{kindFan(10), Divisor{0, 100, 0, -100}, true},
		{kindFan(10), Divisor{0, 100, -1, -100}, false},
		{kindFan(10), Divisor{100, -100, 0, -100}, true},
		{kindFan(10), Divisor{100, -100, -1, -100}, false},
		{kindFan(11), Divisor{0, -92, -1, 91}, true},
		{kindFan(11), Divisor{0, -92, 0, 91}, false},
		{kindFan(11), Divisor{0, 91, 1, -91}, true},
		{kindFan(11), Divisor{0, 91, 0, -91}, false},
		{kindFan(1000), Divisor{0, 0, 0, 1}, true},
		{kindFan(1000), Divisor{0, 0, 1, 1}, false},
		{kindFan(1000), Divisor{0, 0, 0, -1}, true},
		{kindFan(1000), Divisor{0, 0, -1, -1}, false},
		{fan(1000, 999, -999, -998, -1, -1), Divisor{0, 0, -1}, true},
		{fan(1000, 999, -999, -998, -1, -1), Divisor{1, 0, -1}, true},
		{fan(1000, 999, -999, -998, -1, -1), Divisor{2, -1, -1}, true},
		{fan(1000, 999, -999, -998, -1, -1), Divisor{-1, 0, -1}, false},
		{fan(1000, 999, -999, -998, -1, -1), Divisor{-100, 100, 0}, true},
		{fan(1000, 999, -999, -998, -1, -1), Divisor{0, 0, 1}, false},
		{fan(1, 1, 0, 1, -1, -2), Divisor{-100, 100, -100}, true},
	}
	for _, c := range cases {
		checkTold(t, c.f, c.d, c.told)
	}
}

// TestSectionsInOrder sees that lower X stands first, and of one X lower Y, with many columns, which are found at the same time.
func TestSectionsInOrder(t *testing.T) {
	for _, f := range slices.Concat(allTurns(planeFan()), quarterTurns(kindFan(10)), []Fan{evenFan(), longFan(13, 5)}) {
		for _, d := range append(nefDivisors(f), filled(len(f), 1), filled(len(f), 33), unit(len(f), 3%len(f), 50)) {
			list, _ := impl.SectionList(f, d)
			for i := 1; i < len(list); i++ {
				if a, b := list[i-1], list[i]; a.X > b.X || a.X == b.X && a.Y >= b.Y {
					t.Errorf("SectionList(%v, %v) has %v ahead of %v", f, d, a, b)
				}
			}
			for range 10 {
				if again, _ := impl.SectionList(f, d); !slices.Equal(again, list) {
					t.Errorf("SectionList(%v, %v) is not the same each time", f, d)
				}
			}
		}
	}
}

// TestSectionsOfSums adds sections of two divisors, and of one and itself; as many times as a section is taken, as many times is the divisor.
func TestSectionsOfSums(t *testing.T) {
	all := 0
	for _, f := range []Fan{planeFan(), turnedTo(kindFan(1), 3), kindFan(-2), turnedTo(evenFan(), 7), longFan(8, 3)} {
		list := append(nefDivisors(f)[:5], filled(len(f), 1), mixedDivisors(len(f))[0], mixedDivisors(len(f))[1])
		for i, a := range list {
			for _, b := range list[i:] {
				sum, ok := impl.DivisorAdd(f, a, b)
				if !ok {
					continue
				}
				for _, m := range sectionsOf(f, a) {
					for _, n := range sectionsOf(f, b) {
						all++
						checkHas(t, f, sum, Vec{X: m.X + n.X, Y: m.Y + n.Y}, true)
					}
				}
			}
			for n := 1; n <= 3; n++ {
				multiple := times(a, n)
				for _, m := range sectionsOf(f, a) {
					checkHas(t, f, multiple, Vec{X: n * m.X, Y: n * m.Y}, true)
				}
			}
		}
	}
	atLeast(t, all, 1000)
}

// TestSectionOnEveryIndex takes all indexes, some beyond both ends, and the least and the greatest int.
func TestSectionOnEveryIndex(t *testing.T) {
	for _, f := range []Fan{planeFan(), turnedTo(kindFan(2), 1), longFan(20, 7)} {
		for _, d := range []Divisor{filled(len(f), 1), filled(len(f), -1), ampleOf(f), mixedDivisors(len(f))[2]} {
			if !hasCoefs(f, d) || !limitsOf(f, d).areTold() {
				continue
			}
			on, _ := onOf(f, d, sectionsOf(f, d))
			for _, i := range edgeIndexes(f) {
				if i >= 0 && i < len(f) {
					checkOn(t, f, d, i, on[i], true)
				} else {
					checkOn(t, f, d, i, 0, false)
				}
			}
		}
	}
}

// TestSectionsOfMultiples has as many sections as a triangle or a square of whole numbers, with coefficients up to the limit.
func TestSectionsOfMultiples(t *testing.T) {
	for n := -3; n <= 33; n++ {
		count, inner := max(0, n*3+1)*(n*3+2)/2, max(0, n*3-1)*(n*3-2)/2
		for _, f := range allTurns(planeFan()) {
			got, ok := impl.SectionCount(f, filled(3, n))
			checkNumber(t, "SectionCount", f, filled(3, n), nil, got, ok, count, true)
			got, ok = impl.SectionInner(f, filled(3, n))
			checkNumber(t, "SectionInner", f, filled(3, n), nil, got, ok, inner, true)
		}
		count, inner = max(0, n*2+1)*max(0, n*2+1), max(0, n*2-1)*max(0, n*2-1)
		for _, f := range allTurns(kindFan(0)) {
			got, ok := impl.SectionCount(f, filled(4, n))
			checkNumber(t, "SectionCount", f, filled(4, n), nil, got, ok, count, true)
			got, ok = impl.SectionInner(f, filled(4, n))
			checkNumber(t, "SectionInner", f, filled(4, n), nil, got, ok, inner, true)
		}
	}
}
