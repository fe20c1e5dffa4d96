package tests

import (
	"math"
	"math/big"
	"slices"
	"testing"

	"loop.example/toricfans/impl"
)

// fractionOf returns the fraction of two numbers by the words of the document.
func fractionOf(n, q int) []int {
	b := n / q
	if n%q == 0 {
		return []int{b}
	}
	return append([]int{b + 1}, fractionOf(q, (b+1)*q-n)...)
}

// isPair reports whether two numbers have a fraction that FractionOf returns.
func isPair(n, q int) bool {
	return q >= 1 && n > q && n <= 10000 && commonDivisor(n, q) == 1
}

func checkFractionOf(t *testing.T, n, q int) {
	t.Helper()
	var due []int
	if isPair(n, q) {
		due = fractionOf(n, q)
	}
	if got, ok := impl.FractionOf(n, q); ok != isPair(n, q) || !slices.Equal(got, due) {
		t.Errorf("FractionOf(%d, %d) returned %v, %v, not %v", n, q, got, ok, due)
	}
}

func TestFractionOf(t *testing.T) {
	for n := -2; n <= 150; n++ {
		for q := -2; q <= n+2; q++ {
			checkFractionOf(t, n, q)
		}
	}
	numbers := append(edgeNumbers(), 4, 5, 5000, 4999, 7919, 9998, 9999, 10000, 10001, 10002, -10000, 20000)
	for _, n := range numbers {
		for _, q := range numbers {
			checkFractionOf(t, n, q)
		}
	}
	for q := 1; q <= 10001; q++ {
		checkFractionOf(t, 10000, q)
	}
}

func TestFractionOfSome(t *testing.T) {
	cases := []struct {
		n, q int
		due  []int
		ok   bool
	}{
		{2, 1, []int{2}, true},
		{3, 1, []int{3}, true},
		{3, 2, []int{2, 2}, true},
		{7, 3, []int{3, 2, 2}, true},
		{7, 4, []int{2, 4}, true},
		{10000, 1, []int{10000}, true},
		{9999, 100, []int{100, 100}, true},
		{10000, 9999, slices.Repeat([]int{2}, 9999), true},
		{10001, 1, nil, false},
		{10001, 10000, nil, false},
		{1, 1, nil, false},
		{1, 0, nil, false},
		{5, 0, nil, false},
		{5, -1, nil, false},
		{5, 5, nil, false},
		{3, 7, nil, false},
		{6, 4, nil, false},
		{10000, 5000, nil, false},
		{0, 0, nil, false},
		{math.MaxInt, 1, nil, false},
		{math.MaxInt, math.MaxInt - 1, nil, false},
		{math.MaxInt, math.MinInt, nil, false},
		{math.MinInt, math.MaxInt, nil, false},
		{7, math.MinInt, nil, false},
		{7, math.MaxInt, nil, false},
	}
	for _, c := range cases {
		if got, ok := impl.FractionOf(c.n, c.q); ok != c.ok || !slices.Equal(got, c.due) {
			t.Errorf("FractionOf(%d, %d) returned %v, %v", c.n, c.q, got, ok)
		}
	}
}

// isList reports whether a list is one that FractionValue takes, however great its numbers get.
func isList(list []int) bool {
	bad := func(b int) bool { return b < 2 || b > 100 }
	return len(list) >= 1 && len(list) <= 20 && !slices.ContainsFunc(list, bad)
}

// numbersOf returns the two numbers of which a list is the fraction, from its first number on and without a limit.
func numbersOf(list []int) (*big.Int, *big.Int) {
	n, q := big.NewInt(1), big.NewInt(0)
	lastN, lastQ := big.NewInt(0), big.NewInt(-1)
	for _, b := range list {
		n, lastN = new(big.Int).Sub(new(big.Int).Mul(big.NewInt(int64(b)), n), lastN), n
		q, lastQ = new(big.Int).Sub(new(big.Int).Mul(big.NewInt(int64(b)), q), lastQ), q
	}
	return n, q
}

func isValued(list []int) bool {
	if !isList(list) {
		return false
	}
	n, _ := numbersOf(list)
	return n.Cmp(big.NewInt(1000000000)) <= 0
}

func checkFractionValue(t *testing.T, list []int) {
	t.Helper()
	var dueN, dueQ int64
	if isValued(list) {
		n, q := numbersOf(list)
		dueN, dueQ = n.Int64(), q.Int64()
	}
	n, q, ok := impl.FractionValue(list)
	if ok != isValued(list) || int64(n) != dueN || int64(q) != dueQ {
		t.Errorf("FractionValue(%v) returned %d, %d, %v, not %d, %d", list, n, q, ok, dueN, dueQ)
	}
}

func checkFractionOther(t *testing.T, list []int) {
	t.Helper()
	var due []int
	valid := false
	if isValued(list) {
		n, q := numbersOf(list)
		if valid = n.Int64() <= 10000; valid {
			due = fractionOf(int(n.Int64()), int(n.Int64()-q.Int64()))
		}
	}
	if got, ok := impl.FractionOther(list); ok != valid || !slices.Equal(got, due) {
		t.Errorf("FractionOther(%v) returned %v, %v, not %v, %v", list, got, ok, due, valid)
	}
}

// variedLists has lists of every length up to 22, of numbers up to several bounds, by a rule without a pattern.
func variedLists() [][]int {
	var lists [][]int
	seed := uint32(1)
	next := func(below int) int {
		seed = seed*1664525 + 1013904223
		return int(seed>>8) % below
	}
	for _, most := range []int{2, 3, 4, 10, 40, 100} {
		for n := range 22 * 30 {
			list := make([]int, n%22+1)
			for i := range list {
				list[i] = 2 + next(most-1)
			}
			lists = append(lists, list)
		}
	}
	return lists
}

func goodLists() [][]int {
	return slices.DeleteFunc(variedLists(), func(list []int) bool { return !isValued(list) })
}

// badLists has lists of a wrong length, and those with one number that is none at each place.
func badLists() [][]int {
	lists := [][]int{nil, {}, slices.Repeat([]int{2}, 21), slices.Repeat([]int{2}, 1000), slices.Repeat([]int{100}, 21)}
	for _, b := range []int{1, 101, 0, -1, -2, -100, 102, 1 << 32, math.MaxInt, math.MinInt} {
		lists = append(lists, []int{b}, []int{b, 2, 2}, []int{3, b, 2}, []int{2, 3, b}, []int{b, b})
	}
	return lists
}

func TestFractionValueAndOther(t *testing.T) {
	atLeast(t, len(goodLists()), 1000)
	for _, list := range append(variedLists(), badLists()...) {
		checkFractionValue(t, list)
		checkFractionOther(t, list)
	}
}

func TestFractionValueOfSome(t *testing.T) {
	cases := []struct {
		list []int
		n, q int
		ok   bool
	}{
		{[]int{2}, 2, 1, true},
		{[]int{100}, 100, 1, true},
		{[]int{3, 2, 2}, 7, 3, true},
		{[]int{2, 2, 3}, 7, 5, true},
		{[]int{2, 100}, 199, 100, true},
		{[]int{100, 2}, 199, 2, true},
		{slices.Repeat([]int{2}, 20), 21, 20, true},
		{slices.Repeat([]int{2}, 21), 0, 0, false},
		{nil, 0, 0, false},
		{[]int{}, 0, 0, false},
		{[]int{1}, 0, 0, false},
		{[]int{101}, 0, 0, false},
		{[]int{2, 1}, 0, 0, false},
		{[]int{2, 101}, 0, 0, false},
		{[]int{math.MaxInt}, 0, 0, false},
		{[]int{math.MinInt, 2}, 0, 0, false},
		{[]int{7, 3, 2, 2, 2, 2, 4, 2, 2, 2, 3, 5, 2, 9, 3, 2, 2, 2, 17, 68}, 1000000000, 152858163, true},
		{[]int{2, 2, 3, 3, 2, 8, 2, 3, 2, 4, 2, 2, 3, 4, 49, 2, 3, 9, 2, 3}, 0, 0, false}, // 1000000001 and 724314130
		{[]int{100, 100, 12, 2, 2, 2, 39, 2, 7, 2, 3}, 0, 0, false},                       // 1000000001 and 10001001
		{slices.Repeat([]int{100}, 4), 99970001, 999800, true},
		{slices.Repeat([]int{100}, 5), 0, 0, false},
		{slices.Repeat([]int{100}, 20), 0, 0, false},
	}
	for _, c := range cases {
		if n, q, ok := impl.FractionValue(c.list); ok != c.ok || n != c.n || q != c.q {
			t.Errorf("FractionValue(%v) returned %d, %d, %v", c.list, n, q, ok)
		}
	}
}

func TestFractionOtherOfSome(t *testing.T) {
	cases := []struct {
		list []int
		due  []int
		ok   bool
	}{
		{[]int{2}, []int{2}, true},
		{[]int{3, 2, 2}, []int{2, 4}, true},
		{[]int{2, 4}, []int{3, 2, 2}, true},
		{[]int{100}, slices.Repeat([]int{2}, 99), true},
		{slices.Repeat([]int{2}, 20), []int{21}, true},
		{[]int{7, 3, 2, 2, 2, 2, 2, 2, 3, 5, 6, 2}, fractionOf(9999, 9999-1531), true},
		{[]int{2, 2, 3, 2, 20, 47}, fractionOf(10000, 10000-7277), true},
		{[]int{98, 2, 2, 2, 2, 2, 2, 2, 2, 2, 2, 4, 2, 2, 2}, fractionOf(10000, 10000-103), true},
		{[]int{98, 2, 2, 2, 2, 2, 2, 2, 2, 2, 5, 2, 2}, nil, false}, // 10001 and 103
		{[]int{2, 2, 3, 3, 2, 2, 24, 2, 6}, nil, false},             // 10001 and 7251
		{[]int{100, 100, 100}, nil, false},
		{slices.Repeat([]int{100}, 20), nil, false},
		{slices.Repeat([]int{2}, 21), nil, false},
		{nil, nil, false},
		{[]int{1}, nil, false},
		{[]int{2, 101}, nil, false},
		{[]int{math.MinInt}, nil, false},
	}
	for _, c := range cases {
		if got, ok := impl.FractionOther(c.list); ok != c.ok || !slices.Equal(got, c.due) {
			t.Errorf("FractionOther(%v) returned %v, %v", c.list, got, ok)
		}
	}
}

// overwrite changes all of the memory of a list, as far as its capacity.
func overwrite[T any](list []T, value T) {
	list = list[:cap(list)]
	for i := range list {
		list[i] = value
	}
}

func TestResultsOfFractionsShareNoMemory(t *testing.T) {
	first, _ := impl.FractionOf(7, 3)
	overwrite(first, 9)
	if again, ok := impl.FractionOf(7, 3); !ok || !slices.Equal(again, []int{3, 2, 2}) {
		t.Errorf("FractionOf(7, 3) returned %v, %v", again, ok)
	}
	all := []int{3, 2, 2, 5, 5, 5}
	list := all[:3]
	other, _ := impl.FractionOther(list)
	overwrite(other, 9)
	if !slices.Equal(all, []int{3, 2, 2, 5, 5, 5}) {
		t.Errorf("FractionOther shares the memory of its argument: %v", all)
	}
	if again, ok := impl.FractionOther(list); !ok || !slices.Equal(again, []int{2, 4}) {
		t.Errorf("FractionOther(%v) returned %v, %v", list, again, ok)
	}
}

func TestFractionsLeaveTheirArguments(t *testing.T) {
	for _, list := range append(variedLists(), badLists()...) {
		all := append(slices.Clone(list), 7, 8)
		before := slices.Clone(all)
		impl.FractionValue(all[:len(list)])
		impl.FractionOther(all[:len(list)])
		if !slices.Equal(all, before) {
			t.Errorf("the list %v was changed to %v", before, all)
		}
	}
}
