package impl

import (
	"errors"
	"testing"
)

type wrapped struct {
	error
}

func (w wrapped) Unwrap() error {
	return w.error
}

func TestIsNone(t *testing.T) {
	none := Vec{X: SizeMax + 1}.check()
	if !isNone(none) || !isNone(wrapped{none}) {
		t.Errorf("a vector that is none is not found in %v", none)
	}
	if none == nil || none.Error() != "this is no vector" {
		t.Errorf("the error is %v", none)
	}
	if isNone(nil) || isNone(errors.New("another error")) {
		t.Errorf("isNone holds for another error, or for none at all")
	}
}

func TestCommonDivisor(t *testing.T) {
	cases := []struct{ a, b, due int }{
		{0, 0, 0}, {0, 5, 5}, {-5, 0, 5}, {0, -5, 5}, {12, 18, 6}, {-12, 18, 6}, {12, -18, 6}, {-12, -18, 6},
		{1000, 999, 1}, {-1000, -1000, 1000}, {1, -1000, 1},
	}
	for _, c := range cases {
		if got := commonDivisor(c.a, c.b); got != c.due {
			t.Errorf("commonDivisor(%d, %d) returned %d", c.a, c.b, got)
		}
	}
}

func TestPrimitive(t *testing.T) {
	cases := []struct {
		a, due Vec
		n      int
	}{
		{Vec{6, -4}, Vec{3, -2}, 2}, {Vec{0, -7}, Vec{0, -1}, 7}, {Vec{5, 0}, Vec{1, 0}, 5}, {Vec{-3, -3}, Vec{-1, -1}, 3}, {Vec{2, 3}, Vec{2, 3}, 1},
	}
	for _, c := range cases {
		if got, n := c.a.primitive(); got != c.due || n != c.n {
			t.Errorf("%v is %v times %d", c.a, got, n)
		}
	}
}

func TestRounds(t *testing.T) {
	cases := []struct {
		directions []Vec
		due        int
	}{
		{nil, 0},
		{[]Vec{{1, 0}, {0, 1}, {-1, -1}}, 1},
		{[]Vec{{0, 2}, {-1, -1}, {2, 0}}, 1},
		{[]Vec{{1, 1}, {-1, 1}, {-1, -1}, {1, -1}}, 1},
		{[]Vec{{1, 0}, {-1, 1}, {0, -1}, {1, 1}, {-1, 0}, {1, -1}, {0, 1}, {-1, -1}}, 3},
		{[]Vec{{1, 0}, {0, 1}, {-1, 0}, {0, -1}, {1, 0}, {0, 1}, {-1, 0}, {0, -1}}, 2},
	}
	for _, c := range cases {
		if got := rounds(c.directions); got != c.due {
			t.Errorf("%v lead round %d times", c.directions, got)
		}
	}
}
