package impl

import (
	"cmp"
	"math"
	"slices"
	"testing"
)

// byHeight begins a hull at its lowest point.
func byHeight(a, b [2]int) int {
	return cmp.Or(cmp.Compare(a[1], b[1]), cmp.Compare(a[0], b[0]))
}

// bendsBack reports the bend as it is seen when a pair has its second number first.
func bendsBack(a, b, c [2]int) bool {
	return bends(Vec{a[1], a[0]}, Vec{b[1], b[0]}, Vec{c[1], c[0]})
}

func TestHullOfOtherPoints(t *testing.T) {
	points := [][2]int{{4, 4}, {0, 4}, {2, 2}, {4, 0}, {0, 0}, {4, 2}, {0, 0}, {3, 1}}
	if got := hull(points, byHeight, bendsBack); !slices.Equal(got, [][2]int{{0, 0}, {0, 4}, {4, 4}, {4, 0}}) {
		t.Errorf("hull returned %v", got)
	}
}

func TestHull(t *testing.T) {
	cases := []struct{ points, due []Vec }{
		{nil, nil},
		{[]Vec{{3, 4}}, nil},
		{[]Vec{{3, 4}, {3, 4}, {3, 4}}, []Vec{{3, 4}, {3, 4}}},
		{[]Vec{{3, 4}, {1, 2}}, []Vec{{1, 2}, {3, 4}}},
		{[]Vec{{2, 3}, {3, 4}, {1, 2}, {2, 3}}, []Vec{{1, 2}, {3, 4}}},
		{[]Vec{{0, 7}, {0, 5}, {0, 6}}, []Vec{{0, 5}, {0, 7}}},
		{[]Vec{{0, 1}, {1, 0}, {0, 0}}, []Vec{{0, 0}, {1, 0}, {0, 1}}},
		{[]Vec{{0, 2}, {0, 1}, {1, 1}, {0, 0}, {1, 0}, {2, 0}}, []Vec{{0, 0}, {2, 0}, {0, 2}}},
		{[]Vec{{5, 5}, {-5, 5}, {5, -5}, {-5, -5}, {0, 0}, {5, 0}, {0, 5}, {-5, 0}, {0, -5}}, []Vec{{-5, -5}, {5, -5}, {5, 5}, {-5, 5}}},
	}
	for _, c := range cases {
		points := slices.Clone(c.points)
		got := hull(points, byNumbers, bends)
		if !slices.Equal(got, c.due) {
			t.Errorf("hull(%v) returned %v", c.points, got)
		}
		for i := range got {
			got[i] = Vec{99, 99}
		}
		if !slices.Equal(points, c.points) || cap(got) > len(points) {
			t.Errorf("hull changed %v to %v, or has room for %d corners", c.points, points, cap(got))
		}
	}
}

func TestHalf(t *testing.T) {
	cases := []struct{ way, due []Vec }{
		{nil, nil},
		{[]Vec{{1, 1}}, nil},
		{[]Vec{{0, 0}, {4, 0}}, []Vec{{0, 0}}},
		{[]Vec{{0, 0}, {1, 0}, {2, 0}, {4, 0}}, []Vec{{0, 0}}},
		{[]Vec{{0, 0}, {1, -1}, {2, 5}, {3, -1}, {4, 0}}, []Vec{{0, 0}, {1, -1}, {3, -1}}},
		{[]Vec{{0, 0}, {0, 3}, {1, 1}, {1, 2}, {2, 0}, {2, 0}}, []Vec{{0, 0}}},
		{[]Vec{{4, 0}, {3, 1}, {2, 4}, {1, 1}, {0, 0}}, []Vec{{4, 0}, {2, 4}}},
	}
	for _, c := range cases {
		way := slices.Clone(c.way)
		if got := half(way, bends); !slices.Equal(got, c.due) {
			t.Errorf("half of %v returned %v", c.way, got)
		}
	}
}

func TestInCorner(t *testing.T) {
	for _, n := range []int{0, 1, -1, 99, 100, -100} {
		if !inCorner(Vec{n, 0}) || !inCorner(Vec{0, n}) || !inCorner(Vec{n, -n}) {
			t.Errorf("%d may not stand in a corner", n)
		}
	}
	for _, n := range []int{101, -101, SizeMax, -SizeMax, math.MaxInt, math.MinInt} {
		if inCorner(Vec{n, 0}) || inCorner(Vec{0, n}) || inCorner(Vec{n, n}) {
			t.Errorf("%d may stand in a corner", n)
		}
	}
}

func TestPolygonCheck(t *testing.T) {
	cases := []struct {
		p    polygon
		none bool
	}{
		{polygon{{0, 0}, {1, 0}, {0, 1}}, false},
		{polygon{{0, 1}, {0, 0}, {1, 0}}, false},
		{polygon{{0, 0}, {0, 1}, {1, 0}}, true},
		{polygon{{0, 0}, {1, 0}, {2, 0}}, true},
		{polygon{{0, 0}, {1, 0}}, true},
		{nil, true},
		{polygon{{0, 0}, {101, 0}, {0, 1}}, true},
		{polygon{{0, 0}, {1, 0}, {0, math.MinInt}}, true},
		{polygon{{0, 0}, {1, 0}, {0, 1}, {0, 0}, {1, 0}, {0, 1}}, true},
		{polygon{{0, 0}, {10, 0}, {10, 10}, {0, 10}, {1, 2}, {8, 2}, {8, 8}, {2, 8}}, true},
	}
	for _, c := range cases {
		if isNone(c.p.check()) != c.none {
			t.Errorf("the check of %v returned %v", c.p, c.p.check())
		}
	}
}

// The sum has all sums of two corners only on the way: of the hull, each corner is one of them.
func TestPlusAndChanged(t *testing.T) {
	p, q := polygon{{1, 0}, {0, 1}, {0, 0}}, polygon{{0, 0}, {0, -1}, {1, 0}}
	sum, ok := p.plus(q)
	if !ok || !slices.Equal(sum, polygon{{0, -1}, {1, -1}, {2, 0}, {1, 1}, {0, 1}}) {
		t.Errorf("plus returned %v, %v", sum, ok)
	}
	over, ok := sum.changed(Mat{-1, 0, 0, 1}.move)
	if !ok || !slices.Equal(over, polygon{{-2, 0}, {-1, -1}, {0, -1}, {0, 1}, {-1, 1}}) {
		t.Errorf("changed returned %v, %v", over, ok)
	}
	if none, ok := p.changed(func(a Vec) Vec { return a.times(101) }); ok || none != nil {
		t.Errorf("changed returned %v, %v", none, ok)
	}
	if none, ok := p.changed(func(a Vec) Vec { return Vec{a.X, a.X} }); ok || none != nil {
		t.Errorf("changed returned %v, %v", none, ok)
	}
}

// Each matrix is found again from where it leads; where none leads, what is found does not.
func TestMatBetween(t *testing.T) {
	a, b := Vec{3, 1}, Vec{-2, 5}
	for _, m := range []Mat{{1, 0, 0, 1}, {0, 1, 1, 0}, {2, 1, 1, 1}, {-999, 1000, 1000, -1001}, {3, 0, 0, 7}} {
		if got := matBetween(a, b, m.move(a), m.move(b)); got != m {
			t.Errorf("matBetween found %v instead of %v", got, m)
		}
	}
	if m := matBetween(a, b, Vec{1, 0}, Vec{0, 1}); m.move(a) == (Vec{1, 0}) {
		t.Errorf("%v leads where no matrix does", m)
	}
}

func TestLeadsTo(t *testing.T) {
	p := polygon{{0, 0}, {3, 0}, {0, 2}}
	cases := []struct {
		q   polygon
		due bool
	}{
		{p, true},
		{polygon{{0, 2}, {0, 0}, {3, 0}}, true},
		{polygon{{90, 90}, {93, 90}, {90, 92}}, true},
		{polygon{{0, 0}, {-3, 0}, {0, -2}}, true},
		{polygon{{0, 0}, {2, 0}, {0, 3}}, false},
		{polygon{{0, 0}, {6, 0}, {0, 1}}, false},
		{polygon{{0, 0}, {6, 0}, {0, 4}}, false},
		{polygon{{0, 0}, {3, 0}, {1, 1}, {0, 2}}, false},
	}
	for _, c := range cases {
		if p.leadsTo(c.q) != c.due {
			t.Errorf("a matrix leads to %v: %v", c.q, !c.due)
		}
	}
}
