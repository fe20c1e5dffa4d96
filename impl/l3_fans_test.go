package impl

import (
	"slices"
	"testing"
)

// checkLinks goes round both ways and holds what it meets against the rays.
func checkLinks(t *testing.T, f *fan, rays []Vec) {
	t.Helper()
	if f.size != len(rays) || !slices.Equal(f.rays(), rays) {
		t.Errorf("the fan has %d rays: %v, not %v", f.size, f.rays(), rays)
		return
	}
	for i, ray := range rays {
		l := f.at(i)
		if l.ray != ray || l.ahead.behind != l || l.behind.ahead != l {
			t.Errorf("the ray %d of %v is linked wrongly", i, rays)
		}
	}
	if len(rays) > 0 && f.at(len(rays)-1).behind != f.first {
		t.Errorf("%v is not linked round", rays)
	}
}

func TestLinked(t *testing.T) {
	rays := []Vec{{1, 0}, {0, 1}, {-1, -1}, {5, 5}, {0, 0}}
	for n := range len(rays) + 1 {
		checkLinks(t, linked(rays[:n]), rays[:n])
	}
}

func TestAt(t *testing.T) {
	f := linked([]Vec{{1, 0}, {0, 1}, {-1, -1}})
	for _, i := range []int{-1, 3, 4} {
		if f.at(i) != nil || linked(nil).at(i) != nil {
			t.Errorf("there is a link with the index %d", i)
		}
	}
	if linked(nil).at(0) != nil {
		t.Errorf("there is a link without rays")
	}
}

func TestBlowAndDown(t *testing.T) {
	rays := []Vec{{1, 0}, {0, 1}, {-1, -1}}
	for i, sum := range []Vec{{1, 1}, {-1, 0}, {0, -1}} {
		f := linked(rays)
		if err := f.blow(i); err != nil {
			t.Errorf("blow(%d) returned %v", i, err)
		}
		checkLinks(t, f, slices.Insert(slices.Clone(rays), i+1, sum))
		f.down(f.at(i + 1))
		checkLinks(t, f, rays)
	}
	f := linked([]Vec{{1, 1}, {0, 1}, {-1, -1}, {1, 0}})
	f.down(f.first)
	checkLinks(t, f, []Vec{{0, 1}, {-1, -1}, {1, 0}})
}

func TestBlowFails(t *testing.T) {
	f := linked([]Vec{{1, 0}, {0, 1}, {-1, -1}})
	for _, i := range []int{-1, 3} {
		if !isNone(f.blow(i)) {
			t.Errorf("blow(%d) does not fail", i)
		}
	}
	checkLinks(t, f, []Vec{{1, 0}, {0, 1}, {-1, -1}})
	if !isNone(linked([]Vec{{1, 0}, {0, 1}, {-1, 1000}, {0, -1}}).blow(1)) {
		t.Errorf("blow does not fail where the sum leaves the range")
	}
}

// Links may be left early, and ranged over again.
func TestLinksLeftEarly(t *testing.T) {
	f := linked([]Vec{{1, 0}, {0, 1}, {-1, 0}, {0, -1}})
	for n := range f.size {
		var list []Vec
		for l := range f.links() {
			list = append(list, l.ray)
			if len(list) == n+1 {
				break
			}
		}
		if !slices.Equal(list, f.rays()[:n+1]) {
			t.Errorf("the first %d links are %v", n+1, list)
		}
	}
}

func TestSorted(t *testing.T) {
	list := []Vec{{0, -1}, {1, 0}, {-1, 0}, {1, 0}, {0, 1}, {0, -1}, {1, 1}}
	if got := sorted(list); !slices.Equal(got, []Vec{{1, 0}, {1, 1}, {0, 1}, {-1, 0}, {0, -1}}) {
		t.Errorf("sorted returned %v", got)
	}
	if list[0] != (Vec{0, -1}) || list[6] != (Vec{1, 1}) {
		t.Errorf("sorted changed its argument to %v", list)
	}
	if got := sorted(nil); len(got) != 0 {
		t.Errorf("sorted returned %v", got)
	}
}
