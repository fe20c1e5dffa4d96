package impl

import (
	"maps"
	"slices"
	"testing"
)

func TestPairs(t *testing.T) {
	p := pair{{1, 0}, {0, 1}}
	for i, n := range []int{-3, 0, 3, 0} {
		p = p.next(n)
		if isNone(p.check()) {
			t.Errorf("the pair %d is none: %v", i, p)
		}
	}
	if p != (pair{{1, 0}, {0, 1}}) {
		t.Errorf("the pairs lead to %v", p)
	}
	if p := (pair{{1, 0}, {0, 1}}).next(-100).next(-100); p != (pair{{-1, 100}, {-100, 9999}}) || !isNone(p.check()) {
		t.Errorf("the pair is %v", p)
	}
	if !isNone((pair{{1001, 0}, {0, 1}}).check()) {
		t.Errorf("a pair with a ray that is no vector is told as one")
	}
}

func TestAreNumbers(t *testing.T) {
	cases := []struct {
		list    []int
		blowups int
		due     bool
	}{
		{[]int{1, 1}, 0, false},
		{[]int{1, 1, 1}, 0, true},
		{slices.Repeat([]int{-100}, 20), 0, true},
		{slices.Repeat([]int{-100}, 19), 1, false},
		{slices.Repeat([]int{-99}, 19), 1, true},
		{slices.Repeat([]int{-99}, 20), 1, false},
		{slices.Repeat([]int{0}, 21), 0, false},
		{[]int{100, -100, 100}, 0, true},
		{[]int{100, -101, 100}, 0, false},
		{[]int{101, 0, 0}, 0, false},
		{[]int{100, -99, 100}, 1, true},
		{[]int{0, 0, 101}, 1, false},
		{[]int{0, 0, -100}, 1, false},
	}
	for _, c := range cases {
		if got := areNumbers(c.list, c.blowups); got != c.due {
			t.Errorf("areNumbers(%v, %d) returned %v", c.list, c.blowups, got)
		}
	}
}

// A list that leads round twice has its rays told, too: only a fan goes round just once.
func TestClosed(t *testing.T) {
	rays, ok := closed([]int{1, 1, 1, 1, 1, 1})
	if !ok || !slices.Equal(rays, []Vec{{1, 0}, {0, 1}, {-1, -1}, {1, 0}, {0, 1}, {-1, -1}}) {
		t.Errorf("the rays are %v, %v", rays, ok)
	}
	if rays, ok := closed([]int{1, 2, 1}); ok {
		t.Errorf("a list that leads elsewhere has the rays %v", rays)
	}
	if rays, ok := closed(slices.Repeat([]int{-100}, 20)); ok || rays != nil {
		t.Errorf("a list with what is no vector has the rays %v", rays)
	}
}

// What stood in the map for another ray, or for another fan, is gone.
func TestTell(t *testing.T) {
	products := map[Vec]int{{7, 8}: 9, {1, 0}: 5}
	f := linked([]Vec{{1, 0}, {0, 1}, {-1, 3}, {0, -1}})
	dues := []map[Vec]int{
		{{0, -1}: 1, {1, 0}: 0, {0, 1}: 1},
		{{1, 0}: 1, {0, 1}: -3, {-1, 3}: 1},
		{{0, 1}: 1, {-1, 3}: 0, {0, -1}: 1},
		{{-1, 3}: 1, {0, -1}: 3, {1, 0}: 1},
	}
	for i := range 8 {
		f.at(i % 4).tell(products)
		if !maps.Equal(products, dues[i%4]) {
			t.Errorf("the products of the ray %d are %v", i%4, products)
		}
	}
}

// tableOf has numbers within and 1 beside them, as the tables of rays do, but any numbers.
func tableOf(numbers []int) table {
	var t table
	for i, n := range numbers {
		t[i][i] = n
		if i > 0 {
			t[i][i-1], t[i-1][i] = 1, 1
		}
	}
	return t
}

// expanded takes each number of the first row that is left, with the rest of the columns, whatever is in the table.
func (t table) expanded(first int, columns []int) int {
	if len(columns) == 0 {
		return 1
	}
	sum, sign := 0, 1
	for i, column := range columns {
		if n := t[first][column]; n != 0 {
			sum += sign * n * t.expanded(first+1, slices.Delete(slices.Clone(columns), i, i+1))
		}
		sign = -sign
	}
	return sum
}

func TestDeterminants(t *testing.T) {
	cases := []struct {
		numbers []int
		due     int
	}{
		{nil, 1},
		{[]int{7}, 7},
		{[]int{2, 3}, 5},
		{[]int{0, 0}, -1},
		{[]int{0, 5, 0}, 0},
		{[]int{2, 2, 2}, 4},
		{[]int{-2, -2, -2, -2}, 5},
	}
	for _, c := range cases {
		if got := tableOf(c.numbers).det(); got != c.due {
			t.Errorf("the determinant with %v is %d", c.numbers, got)
		}
	}
	for n := range 5 * 5 * 5 * 5 * 5 * 5 {
		numbers := []int{n%5 - 2, n/5%5 - 2, n/25%5 - 2, n/125%5 - 2, n/625%5 - 2, n/3125 - 2}
		for size := 2; size <= 6; size++ {
			a := tableOf(numbers[:size])
			if got, due := a.det(), a.expanded(0, []int{0, 1, 2, 3, 4, 5}[:size]); got != due {
				t.Fatalf("the determinant with %v is %d, not %d", numbers[:size], got, due)
			}
		}
	}
}

// As many rows are told as a fan has rays behind the first two, up to all that a table has room for.
func TestTableSizes(t *testing.T) {
	rays := []Vec{{1, 0}, {0, 1}, {-1, -1}}
	for len(rays) <= RaysMax {
		f, ok := smoothFanOf(rays)
		if !ok {
			t.Fatalf("%v is no smooth fan", rays)
		}
		a := f.table()
		if a.size() != len(rays)-2 || len(a.rows()) != len(rays)-2 {
			t.Errorf("the table of %v has %d rows", rays, a.size())
		}
		for i, row := range a.rows() {
			if !slices.Equal(row, a[i][:len(rays)-2]) {
				t.Errorf("row %d of %v is %v", i, a, row)
			}
		}
		rays = slices.Insert(rays, 2, rays[1].plus(rays[2]))
	}
	if (table{}).size() != 0 || len((table{}).rows()) != 0 {
		t.Errorf("an empty table has rows")
	}
}

// A table is a value: it is the same as one that is made anew, and as itself turned over.
func TestTablesAreCompared(t *testing.T) {
	rays := []Vec{{1, 0}, {1, 1}, {0, 1}, {-1, 0}, {-1, -1}, {0, -1}}
	f := linked(rays)
	a := f.table()
	var over table
	for i, r := range a {
		for k, n := range r {
			over[k][i] = n
		}
	}
	if a != over || a != linked(rays).table() || a != f.table() {
		t.Errorf("the table %v is another one", a)
	}
	if a == linked(rays[:3]).table() {
		t.Errorf("the table %v is the same as that of other rays", a)
	}
}
