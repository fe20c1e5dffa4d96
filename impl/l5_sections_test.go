package impl

import (
	"slices"
	"testing"
)

func square(size int) box {
	return box{Vec{-size, -size}, Vec{size, size}}
}

func always(m Vec) bool {
	return true
}

func TestBoxCheck(t *testing.T) {
	cases := []struct {
		b             box
		width, height int
		none          bool
	}{
		{box{}, 1, 1, false},
		{square(2), 5, 5, false},
		{box{Vec{-1, -2}, Vec{-2, 5}}, 0, 8, false},
		{box{Vec{-1, -2}, Vec{5, -9}}, 7, 0, false},
		{box{Vec{200, 200}, Vec{-200, -200}}, 0, 0, false},
		{box{Vec{-33, -33}, Vec{66, 66}}, 100, 100, false},
		{box{Vec{0, 0}, Vec{72, 136}}, 73, 137, true},
		{box{Vec{-SizeMax, 3}, Vec{SizeMax, 6}}, 2001, 4, false},
		{box{Vec{-SizeMax, 3}, Vec{SizeMax, 7}}, 2001, 5, true},
		{box{Vec{-SizeMax - 1, 3}, Vec{0, 3}}, 1002, 1, true},
		{box{Vec{0, 3}, Vec{SizeMax + 1, 3}}, 1002, 1, true},
		{box{Vec{0, SizeMax + 1}, Vec{0, SizeMax}}, 1, 0, true},
		{box{Vec{0, 0}, Vec{0, -SizeMax - 1}}, 1, 0, true},
	}
	for _, c := range cases {
		if c.b.width() != c.width || c.b.height() != c.height || isNone(c.b.check()) != c.none {
			t.Errorf("the box %v has %d columns of %d vectors and %v", c.b, c.b.width(), c.b.height(), c.b.check())
		}
	}
}

// A column that has room for all that is sent leaves no goroutine waiting, and is closed behind the last vector, also where there is none.
func TestSendColumn(t *testing.T) {
	isEven := func(m Vec) bool { return m.Y%2 == 0 }
	never := func(m Vec) bool { return false }
	cases := []struct {
		b     box
		holds func(m Vec) bool
		due   []Vec
	}{
		{square(2), always, []Vec{{7, -2}, {7, -1}, {7, 0}, {7, 1}, {7, 2}}},
		{square(2), isEven, []Vec{{7, -2}, {7, 0}, {7, 2}}},
		{square(2), never, nil},
		{square(-1), always, nil},
	}
	for _, c := range cases {
		column := make(chan Vec, c.b.height())
		c.b.sendColumn(7, c.holds, column)
		var list []Vec
		for m := range column {
			list = append(list, m)
		}
		if !slices.Equal(list, c.due) {
			t.Errorf("sendColumn of %v sent %v", c.b, list)
		}
	}
}

func TestVectorsOfBox(t *testing.T) {
	isShort := func(m Vec) bool { return m.product(m) <= 2 && m.X != 0 }
	if got := square(3).vectors(isShort); !slices.Equal(got, []Vec{{-1, -1}, {-1, 0}, {-1, 1}, {1, -1}, {1, 0}, {1, 1}}) {
		t.Errorf("vectors returned %v", got)
	}
	for _, b := range []box{square(-1), {Vec{-5, 1}, Vec{5, 0}}, {Vec{1, -5}, Vec{0, 5}}, {Vec{-SizeMax, 9}, Vec{SizeMax, -9}}} {
		if got := b.vectors(always); len(got) != 0 {
			t.Errorf("vectors of %v returned %v", b, got)
		}
	}
	if got := square(49).vectors(always); len(got) != 99*99 || got[0] != (Vec{-49, -49}) || got[1] != (Vec{-49, -48}) || got[99*99-1] != (Vec{49, 49}) {
		t.Errorf("vectors returned %d vectors", len(got))
	}
}

func TestCornersCheckAndArea(t *testing.T) {
	cases := []struct {
		list corners
		area int
		none bool
	}{
		{nil, 0, false},
		{corners{{0, 0}, {1, 0}, {0, 1}}, 1, false},
		{corners{{-SizeMax, -SizeMax}, {SizeMax, -SizeMax}, {SizeMax, SizeMax}, {-SizeMax, SizeMax}}, 8000000, false},
		{corners{{3, 4}, {3, 4}, {5, 4}, {5, 4}}, 0, false},
		{corners{{5, 5}, {6, 5}, {5, 6}}, 1, false},
		{corners{{0, 0}, {1, 0}, {0, SizeMax + 1}}, SizeMax + 1, true},
		{corners{{-SizeMax - 1, 0}, {1, 0}, {1, 1}}, SizeMax + 2, true},
	}
	for _, c := range cases {
		if c.list.area() != c.area || isNone(c.list.check()) != c.none {
			t.Errorf("the corners %v have the area %d and %v", c.list, c.list.area(), c.list.check())
		}
	}
}

// The bound of a ray is the coefficient there, and that of a sum in a cone is the sum of both bounds.
func TestBound(t *testing.T) {
	for i := range 3 {
		coefs := []int{100, -7, 3}
		rays := []Vec{{1, 0}, {0, 1}, {-1, -1}}
		d := divisor{linked(slices.Concat(rays[i:], rays[:i])), slices.Concat(coefs[i:], coefs[:i])}
		for _, c := range []struct {
			w   Vec
			due int
		}{
			{Vec{}, 0}, {Vec{1, 0}, 100}, {Vec{0, 1}, -7}, {Vec{-1, -1}, 3}, {Vec{5, 2}, 486}, {Vec{-2, 1}, -15}, {Vec{0, -3}, 309}, {Vec{-1, 0}, -4},
		} {
			if got := d.bound(c.w); got != c.due {
				t.Errorf("the bound of %v is %d, not %d", c.w, got, c.due)
			}
		}
		if got := d.box(); got != (box{Vec{-100, 7}, Vec{-4, 103}}) {
			t.Errorf("the box is %v", got)
		}
	}
}

// The inner sections are those of a divisor with 1 less everywhere, also where this is beyond the limit.
func TestInnerBeyondTheLimit(t *testing.T) {
	d := plane(CoefMax, CoefMax, -CoefMax)
	inner := d.inner()
	if !slices.Equal(inner.coefs, []int{99, 99, -101}) || !isNone(inner.check()) {
		t.Errorf("the inner sections are those of %v", inner.coefs)
	}
	if inner.has(Vec{-100, 0}) || inner.has(Vec{0, -100}) || inner.has(Vec{-50, -50}) || !inner.has(Vec{-51, -50}) {
		t.Errorf("a section on the edge is an inner one, or one within is none")
	}
	if !slices.Equal(d.coefs, []int{CoefMax, CoefMax, -CoefMax}) {
		t.Errorf("the coefficients were changed to %v", d.coefs)
	}
}

func TestHasOn(t *testing.T) {
	d := plane(1, 1, 1)
	cases := []struct {
		m  Vec
		on []bool
	}{
		{Vec{0, 0}, []bool{false, false, false}}, {Vec{-1, -1}, []bool{true, true, false}}, {Vec{2, -1}, []bool{false, true, true}},
		{Vec{-1, 1}, []bool{true, false, false}}, {Vec{-1, 3}, []bool{false, false, false}}, {Vec{-2, 0}, []bool{false, false, false}},
	}
	for _, c := range cases {
		for ray, due := range c.on {
			if d.hasOn(c.m, ray) != due {
				t.Errorf("hasOn(%v, %d) is not %v", c.m, ray, due)
			}
		}
	}
}
