package impl

import (
	"errors"
	"testing"
)

type wrapped struct {
	error
}

func (w wrapped) Unwrap() error {
	return w.error
}

func TestIsNone(t *testing.T) {
	none := Vec{X: SizeMax + 1}.check()
	if !isNone(none) || !isNone(wrapped{none}) {
		t.Errorf("a vector that is none is not found in %v", none)
	}
	if none == nil || none.Error() != "this is no vector" {
		t.Errorf("the error is %v", none)
	}
	if isNone(nil) || isNone(errors.New("another error")) {
		t.Errorf("isNone holds for another error, or for none at all")
	}
}

func TestCommonDivisor(t *testing.T) {
	cases := []struct{ a, b, due int }{
		{0, 0, 0}, {0, 5, 5}, {-5, 0, 5}, {0, -5, 5}, {12, 18, 6}, {-12, 18, 6}, {12, -18, 6}, {-12, -18, 6},
		{1000, 999, 1}, {-1000, -1000, 1000}, {1, -1000, 1},
	}
	for _, c := range cases {
		if got := commonDivisor(c.a, c.b); got != c.due {
			t.Errorf("commonDivisor(%d, %d) returned %d", c.a, c.b, got)
		}
	}
}
