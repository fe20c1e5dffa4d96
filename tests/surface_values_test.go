package tests

import (
	"math"
	"math/big"
	"slices"
)

// areNumbers reports whether a list has some numbers within limits, as many as are told.
func areNumbers(list []int, size int, least int) bool {
	return len(list) >= 3 && len(list) <= size && slices.Min(list) >= least && slices.Max(list) <= 100
}

// sequenceOf returns the X or the Y of the rays of a list of numbers, and of both behind the last one, whatever their size.
func sequenceOf(list []int, first int64, second int64) []*big.Int {
	all := []*big.Int{big.NewInt(first), big.NewInt(second)}
	for i := range list {
		next := big.NewInt(int64(-list[(i+1)%len(list)]))
		next.Mul(next, all[i+1])
		all = append(all, next.Sub(next, all[i]))
	}
	return all
}

// inLimit cuts numbers down to just beyond the limit, so that they can be compared as vectors.
func inLimit(n *big.Int) int {
	beyond := int64(1001)
	if n.CmpAbs(big.NewInt(beyond)) >= 0 {
		return n.Sign() * int(beyond)
	}
	return int(n.Int64())
}

// raysOfNumbers returns the rays of a list and both behind the last one, cut down.
func raysOfNumbers(list []int) Fan {
	xs, ys := sequenceOf(list, 1, 0), sequenceOf(list, 0, 1)
	var f Fan
	for i := range xs {
		f = append(f, Vec{X: inLimit(xs[i]), Y: inLimit(ys[i])})
	}
	return f
}

// leadsBack reports whether the rays of a list lead back, also over rays that are no vectors.
func leadsBack(f Fan) bool {
	n := len(f) - 2
	return f[n] == f[0] && f[n+1] == f[1]
}

// fanOfNumbers returns the fan of a list that closes, and whether it does.
func fanOfNumbers(list []int) (Fan, bool) {
	if kindOfList(list) != "closes" {
		return nil, false
	}
	return raysOfNumbers(list)[:len(list)], true
}

// kindOfList tells lists that close from others, and those apart by what is missing.
func kindOfList(list []int) string {
	if !areNumbers(list, 20, -100) {
		return "no list"
	}
	all := raysOfNumbers(list)
	f := all[:len(list)]
	switch {
	case !areVecs(f) && leadsBack(all):
		return "leads back over what is no vector"
	case !areVecs(f):
		return "has what is no vector"
	case !areVecs(all):
		return "has what is no vector just behind the last ray"
	case !leadsBack(all):
		return "does not lead back"
	case !isFan(f):
		return "leads round more than once"
	}
	return "closes"
}

// allLists has all lists of some numbers within limits.
func allLists(size int, least int, most int) [][]int {
	lists := [][]int{nil}
	for range size {
		var longer [][]int
		for _, list := range lists {
			for n := least; n <= most; n++ {
				longer = append(longer, append(slices.Clone(list), n))
			}
		}
		lists = longer
	}
	return lists
}

// blownList returns a list with -1 behind the number with an index, and this one and the next one less by 1.
func blownList(list []int, i int) []int {
	var blown []int
	for k, n := range list {
		if k == i || k == (i+1)%len(list) {
			n--
		}
		blown = append(blown, n)
		if k == i {
			blown = append(blown, -1)
		}
	}
	return blown
}

// leastLists has the numbers of fans that cannot be blown down.
func leastLists() [][]int {
	lists := [][]int{{1, 1, 1}}
	for _, k := range []int{0, 2, 3, 4, 7, 50, 98, 99, 100} {
		lists = append(lists, []int{0, -k, 0, k}, []int{k, 0, -k, 0}, []int{0, k, 0, -k}, []int{-k, 0, k, 0})
	}
	return lists
}

// blownLists has lists that lead back once, with up to 22 numbers; the rays of the longer ones are often beyond the limit.
func blownLists() [][]int {
	s := series(8)
	lists := leastLists()
	for _, list := range leastLists() {
		for range 8 {
			for at := list; len(at) < 22; {
				at = blownList(at, s.next(len(at)))
				lists = append(lists, at)
			}
		}
	}
	return lists
}

// steepLists blows up beside the last ray again and again, so that the rays grow as the numbers of Fibonacci do.
func steepLists() [][]int {
	var lists [][]int
	for _, list := range leastLists() {
		at := list
		for i := range 15 {
			at = blownList(at, 1+(i+1)/2)
			lists = append(lists, at, turned(at, 1), turned(at, i%len(at)), reversed(at))
		}
	}
	return lists
}

func turned(list []int, i int) []int {
	return slices.Concat(list[i:], list[:i])
}

// listsOfFans has the numbers of smooth fans, also of those with more rays than a fan has, or with numbers that are too great.
func listsOfFans() [][]int {
	var lists [][]int
	for _, f := range slices.Concat(smoothFans(), surfaces(), []Fan{longFan(21, 5), longFan(22, 3), kindFan(101), kindFan(-101)}) {
		lists = append(lists, numbersOfFan(f))
	}
	return lists
}

// listsRound has lists that lead back, but go round more than once, and longer ones of that kind.
func listsRound() [][]int {
	var lists [][]int
	for _, list := range append(leastLists(), blownList([]int{1, 1, 1}, 0), []int{-1, -1, -1, -1, -1, -1}, []int{0, -1, -1, -1, 0}) {
		for n := 2; n*len(list) <= 24; n++ {
			lists = append(lists, slices.Repeat(list, n))
		}
	}
	for _, list := range slices.Clone(lists) {
		for i := range list {
			lists = append(lists, blownList(list, i))
		}
	}
	return append(lists, []int{0, 0, 0, 0, 0, 0, 0, 0}, []int{1, 1, 1, 1, 1, 1}, []int{2, 1, 2, 1, 2, 1, 2, 1}, []int{3, 1, 3, 1, 3, 1, 3, 1, 3, 1, 3, 1})
}

// greatNumbers has numbers at the limits of lists and beyond them.
func greatNumbers() []int {
	return append([]int{98, 99, 100, 101, -98, -99, -100, -101, -102}, edgeNumbers()...)
}

// listsAtLimits puts each of these numbers at each place of some lists.
func listsAtLimits() [][]int {
	var lists [][]int
	for _, list := range [][]int{{1, 1, 1}, {0, 0, 0, 0}, {0, -100, 0, 100}, {0, -1, 0, 1}, {-1, -1, -1, -1, -1, -1}, {5, -7, 3, 0, 2}, numbersOfFan(longFan(19, 5)), numbersOfFan(longFan(20, 5))} {
		for i := range list {
			for _, n := range greatNumbers() {
				lists = append(lists, with(list, i, n))
			}
		}
	}
	for _, n := range greatNumbers() {
		for _, size := range []int{0, 1, 2, 3, 4, 6, 8, 12, 18, 19, 20, 21, 1000} {
			lists = append(lists, filled(size, n))
		}
		lists = append(lists, []int{n, -n, n}, []int{0, -n, 0, n}, []int{n, 0, -n, 0}, []int{0, n, 0, n}, []int{n, 1, 1}, []int{1, 1, n}, []int{1, n, 1})
	}
	return append(lists, nil, []int{}, []int{math.MinInt, math.MaxInt, math.MinInt}, filled(20, wrapper))
}

// listsBehind has lists of which all rays are vectors, but often not the one behind the last ray, or the one behind that.
func listsBehind() [][]int {
	lists := slices.Concat(allLists(3, -100, -97), allLists(3, 30, 35))
	return append(lists, []int{0, -34, 30, 0}, []int{100, 0, 10}, []int{100, 0, 11}, []int{100, -11, 0}, []int{-100, 0, 11, 0}, []int{-100, 10, 0})
}

// numberLists has lists of each kind.
func numberLists() [][]int {
	lists := slices.Concat(allLists(1, -2, 2), allLists(2, -3, 3), allLists(3, -3, 4), allLists(4, -4, 4), allLists(5, -2, 2), allLists(6, -2, 1))
	return slices.Concat(lists, blownLists(), steepLists(), listsOfFans(), listsRound(), listsAtLimits(), listsBehind())
}

// movedTurns has fans that are moved by matrices with the determinants 1 and -1, from each ray on.
func movedTurns(fans []Fan) []Fan {
	var list []Fan
	for _, f := range fans {
		for _, m := range append(goodMats(), steepMats()...) {
			if g, ok := movedFan(f, m); ok {
				list = append(list, allTurns(g)...)
			}
		}
	}
	return list
}

// smoothThrees has the smooth fans with three rays.
func smoothThrees() []Fan {
	return movedTurns([]Fan{planeFan()})
}

// wholeThrees has fans with three rays that are not smooth.
func wholeThrees() []Fan {
	return movedTurns([]Fan{fan(1, 0, 0, 1, -1, -2), fan(1, 0, 0, 1, -2, -1), fan(1, 0, 1, 2, -1, -1), fan(2, 1, -1, 1, -1, -2), fan(1, 0, 0, 1, -5, -7)})
}

// sizedFans has smooth fans with as many rays as are told, moved or not, from each ray on.
func sizedFans(rays int) []Fan {
	s := series(uint64(rays))
	var list []Fan
	for _, from := range []Fan{kindFan(0), kindFan(2), kindFan(-3), planeFan()} {
		for range 3 {
			f := from
			for len(f) < rays {
				f = blownUp(f, s.next(len(f)))
			}
			list = append(list, allTurns(f)...)
			for _, m := range []Mat{{A: 2, B: 1, C: 1, D: 1}, {A: 0, B: 1, C: 1, D: 0}, {A: -1, B: 3, C: 0, D: 1}} {
				if g, ok := movedFan(f, m); ok {
					list = append(list, turnedTo(g, s.next(len(g))))
				}
			}
		}
	}
	return slices.DeleteFunc(list, func(f Fan) bool { return !isSmooth(f) })
}

// surfaceFans has smooth fans with three rays and more, fans that are not smooth, and lists that are no fans.
func surfaceFans() []Fan {
	list := slices.Concat(smoothThrees(), wholeThrees(), fansAround())
	for _, rays := range []int{4, 5, 8, 9, 10, 11, 20, 21} {
		list = append(list, sizedFans(rays)...)
	}
	return list
}

// restTableOf has the products of all pairs of rays but the first two.
func restTableOf(f Fan) [][]int {
	var table [][]int
	for _, row := range tableOf(f)[2:] {
		table = append(table, row[2:])
	}
	return table
}

// determinantOf expands a table by its first row, whatever is in it.
func determinantOf(table [][]int) int {
	if len(table) == 0 {
		return 1
	}
	sum, sign := 0, 1
	for i, n := range table[0] {
		if n != 0 {
			var rest [][]int
			for _, row := range table[1:] {
				rest = append(rest, slices.Delete(slices.Clone(row), i, i+1))
			}
			sum += sign * n * determinantOf(rest)
		}
		sign = -sign
	}
	return sum
}
