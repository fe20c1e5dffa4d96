package impl

import (
	"math"
	"slices"
	"testing"
)

// A polygon is told apart by the type of its shape, and what is no polygon has none.
func TestShapeOf(t *testing.T) {
	cases := []struct {
		p    polygon
		kind string
	}{
		{polygon{{1, 0}, {0, 1}, {-1, -1}}, "reflexive polygon"},
		{polygon{{-1, -1}, {2, -1}, {-1, 2}}, "reflexive polygon"},
		{polygon{{-1, -1}, {1, -1}, {1, 1}, {-1, 1}}, "reflexive polygon"},
		{polygon{{-2, -2}, {2, -2}, {2, 2}, {-2, 2}}, "polygon"},
		{polygon{{-1, 0}, {0, -1}, {1, 0}, {0, 2}}, "polygon"},
		{polygon{{0, 0}, {3, 0}, {0, 3}}, "polygon"},
		{polygon{{-1, 0}, {1, 0}, {0, 1}}, "polygon"},
		{polygon{{5, 5}, {6, 5}, {5, 6}}, "polygon"},
		{polygon{{1, 0}, {1, 1}, {0, 1}, {-1, 1}, {-1, 0}, {-1, -1}, {0, -1}, {1, -1}}, "none"},
		{polygon{{1, 0}, {0, 1}, {-1, -1}, {1, 0}, {0, 1}, {-1, -1}}, "none"},
		{polygon{{1, 0}, {-1, -1}, {0, 1}}, "none"},
		{polygon{{1, 0}, {0, 1}, {math.MinInt, math.MinInt}}, "none"},
		{nil, "none"},
	}
	for _, c := range cases {
		kind := "none"
		switch shapeOf(c.p).(type) {
		case reflexive:
			kind = "reflexive polygon"
		case polygon:
			kind = "polygon"
		}
		if kind != c.kind {
			t.Errorf("the shape of %v is %s, not %s", c.p, kind, c.kind)
		}
		r, err := reflexiveOf(c.p)
		if isNone(err) != (c.kind != "reflexive polygon") || isNone(err) != (r.dual == nil) {
			t.Errorf("reflexiveOf(%v) returned %v, %v", c.p, r.polygon, err)
		}
	}
}

func TestReflexiveOfTellsWhatIsMissing(t *testing.T) {
	if _, err := reflexiveOf([]Vec{{0, 0}, {1, 0}, {0, 1}}); err == nil || err.Error() != "this is no reflexive polygon" {
		t.Errorf("the error is %v", err)
	}
	if _, err := reflexiveOf([]Vec{{0, 0}, {1, 0}}); err == nil || err.Error() != "this is no polygon" {
		t.Errorf("the error is %v", err)
	}
}

// The corners come from the first one on, each with the vectors on the way from it behind it.
func TestEdgeVectors(t *testing.T) {
	cases := []struct {
		p   polygon
		due []Vec
	}{
		{polygon{{1, 0}, {0, 1}, {-1, -1}}, []Vec{{1, 0}, {0, 1}, {-1, -1}}},
		{polygon{{2, -1}, {-1, 2}, {-1, -1}}, []Vec{{2, -1}, {1, 0}, {0, 1}, {-1, 2}, {-1, 1}, {-1, 0}, {-1, -1}, {0, -1}, {1, -1}}},
		{polygon{{2, 1}, {-2, 1}, {0, -1}}, []Vec{{2, 1}, {1, 1}, {0, 1}, {-1, 1}, {-2, 1}, {-1, 0}, {0, -1}, {1, 0}}},
		{polygon{{0, 0}, {4, 2}, {0, 3}}, []Vec{{0, 0}, {2, 1}, {4, 2}, {0, 3}, {0, 2}, {0, 1}}},
	}
	for _, c := range cases {
		if got := c.p.edgeVectors(); !slices.Equal(got, c.due) || len(got) != c.p.edge() {
			t.Errorf("the edge vectors of %v are %v", c.p, got)
		}
	}
}

// Each time that the dual is asked for, it is made anew.
func TestDualOf(t *testing.T) {
	p := polygon{{2, -1}, {-1, 2}, {-1, -1}}
	dual := dualOf(p)
	for range 3 {
		q, ok := dual()
		if !ok || !slices.Equal(q, polygon{{-1, -1}, {1, 0}, {0, 1}}) {
			t.Errorf("the dual of %v is %v, %v", p, q, ok)
		}
		q = q[:cap(q)]
		for i := range q {
			q[i] = Vec{99, 99}
		}
	}
	if !slices.Equal(p, polygon{{2, -1}, {-1, 2}, {-1, -1}}) {
		t.Errorf("the polygon was changed to %v", p)
	}
	if q, ok := dualOf(polygon{{-1, 0}, {-100, -1}, {1, 0}, {100, 1}})(); ok || q != nil {
		t.Errorf("a dual with a number beyond the limit is %v, %v", q, ok)
	}
}
