package tests

import (
	"math"
	"slices"
)

type Divisor = []int

func inCoef(n int) bool {
	return n >= -100 && n <= 100
}

func hasCoefs(f Fan, d Divisor) bool {
	return len(d) == len(f) && !slices.ContainsFunc(d, func(n int) bool { return !inCoef(n) })
}

func isDivisor(f Fan, d Divisor) bool {
	return isSmooth(f) && hasCoefs(f, d)
}

// filled returns a list of one number many times.
func filled(size int, n int) Divisor {
	return slices.Repeat(Divisor{n}, size)
}

// with returns a list with another number at an index.
func with(d Divisor, i int, n int) Divisor {
	d = slices.Clone(d)
	d[i] = n
	return d
}

// unit is the list with a number at an index and 0 elsewhere.
func unit(size int, i int, n int) Divisor {
	return with(filled(size, 0), i, n)
}

// plus adds two lists of the same length, of whatever numbers.
func plus(a, b Divisor) Divisor {
	sum := slices.Clone(a)
	for i, n := range b {
		sum[i] += n
	}
	return sum
}

func times(a Divisor, n int) Divisor {
	list := slices.Clone(a)
	for i := range list {
		list[i] *= n
	}
	return list
}

// productsWith returns the products of a vector of any size with all rays.
func productsWith(f Fan, m Vec) Divisor {
	var d Divisor
	for _, a := range f {
		d = append(d, vecProductOf(a, m))
	}
	return d
}

// tableOf has the products of all pairs of rays of a smooth fan.
func tableOf(f Fan) [][]int {
	numbers := numbersOfFan(f)
	var table [][]int
	for i := range f {
		row := filled(len(f), 0)
		row[(i+1)%len(f)] = 1
		row[(i+len(f)-1)%len(f)] = 1
		row[i] = numbers[i]
		table = append(table, row)
	}
	return table
}

// productIn takes all pairs of rays, as the document tells it.
func productIn(table [][]int, a, b Divisor) int {
	sum := 0
	for i := range a {
		for k := range b {
			sum += a[i] * b[k] * table[i][k]
		}
	}
	return sum
}

// degreesIn takes the products with the divisors that have 1 at one ray.
func degreesIn(table [][]int, d Divisor) []int {
	var list []int
	for i := range d {
		list = append(list, productIn(table, d, unit(len(d), i, 1)))
	}
	return list
}

func isNef(table [][]int, d Divisor) bool {
	return slices.Min(degreesIn(table, d)) >= 0
}

func isAmple(table [][]int, d Divisor) bool {
	return slices.Min(degreesIn(table, d)) > 0
}

// supportOf has the least coefficients for which some vectors are sections: it is nef, for sums of rays need no more than the sum.
func supportOf(f Fan, list []Vec) Divisor {
	var d Divisor
	for _, a := range f {
		most := math.MinInt
		for _, m := range list {
			most = max(most, -vecProductOf(a, m))
		}
		d = append(d, most)
	}
	return d
}

// closedDegrees returns the least degrees from 1 on by which the ways at right angles to the rays lead back to where they began.
func closedDegrees(f Fan) []int {
	list := filled(len(f), 1)
	left := Vec{}
	for _, a := range f {
		left = Vec{X: left.X - a.X, Y: left.Y - a.Y}
	}
	for i := range f {
		c := coneOf(f, i)
		if p, q := vecDetOf(left, c.V), vecDetOf(c.U, left); p >= 0 && q >= 0 {
			list[i] += p
			list[(i+1)%len(f)] += q
			break
		}
	}
	return list
}

// middle returns the vector halfway between the least and the greatest numbers of some vectors.
func middle(list []Vec) Vec {
	least, most := list[0], list[0]
	for _, a := range list {
		least = Vec{X: min(least.X, a.X), Y: min(least.Y, a.Y)}
		most = Vec{X: max(most.X, a.X), Y: max(most.Y, a.Y)}
	}
	return Vec{X: (least.X + most.X) / 2, Y: (least.Y + most.Y) / 2}
}

// ampleOf walks round along the ways with the degrees of closedDegrees and has the corners of this way as sections, with 0 in their middle.
// For rays near the limit its coefficients may be too great.
func ampleOf(f Fan) Divisor {
	var corners []Vec
	at := Vec{}
	for i, n := range closedDegrees(f) {
		at = Vec{X: at.X + f[i].Y*n, Y: at.Y - f[i].X*n}
		corners = append(corners, at)
	}
	m := middle(corners)
	return plus(supportOf(f, corners), productsWith(f, m))
}

// nefDivisors has nef divisors, some of them with degrees 0 and some ample, as far as their coefficients are within the limit.
func nefDivisors(f Fan) []Divisor {
	squares := [][]Vec{
		fan(0, 0), fan(1, 0), fan(0, 0, 1, 0), fan(0, 0, 1, 1, 0, 2), fan(-2, -1, 1, -1, 1, 2), fan(-3, 0, 0, -3, 3, 3, 0, 4), fan(-30, 20, 7, -9, 40, 5),
	}
	var list []Divisor
	for _, square := range squares {
		list = append(list, supportOf(f, square))
	}
	ample := ampleOf(f)
	list = append(list, ample, times(ample, 2), plus(ample, list[5]))
	return slices.DeleteFunc(list, func(d Divisor) bool { return !hasCoefs(f, d) })
}

// mixedDivisors has numbers of both signs, small ones and large ones.
func mixedDivisors(size int) []Divisor {
	var small, large []Divisor
	for seed := 1; seed <= 5; seed++ {
		a, b := filled(size, 0), filled(size, 0)
		for i := range size {
			a[i] = (i*i*seed+37*i+11*seed)%7 - 3
			b[i] = (i*i*seed*13+71*i+29*seed)%201 - 100
		}
		small, large = append(small, a), append(large, b)
	}
	return append(small, large...)
}

// goodDivisors has as many numbers as there are rays in each list, from -100 to 100.
func goodDivisors(f Fan) []Divisor {
	var list []Divisor
	for _, n := range []int{0, 1, -1, 2, -2, 33, 50, -50, 51, -51, 100, -100} {
		list = append(list, filled(len(f), n))
	}
	for i := range min(len(f), 20) {
		for _, n := range []int{1, -1, 2, 100, -100} {
			list = append(list, unit(len(f), i, n))
		}
		list = append(list, with(filled(len(f), 100), i, -100), with(filled(len(f), -1), i, -100))
	}
	list = append(list, mixedDivisors(len(f))...)
	if isSmooth(f) {
		list = append(list, nefDivisors(f)...)
	}
	return list
}

// beyondCoef has numbers that are no coefficients.
func beyondCoef() []int {
	return []int{101, -101, 200, -200, 1000, 1 << 32, -1 << 32, wrapper, math.MaxInt, math.MinInt + 1, math.MinInt}
}

// badDivisors has each kind of what is no divisor of a fan.
func badDivisors(f Fan) []Divisor {
	list := []Divisor{filled(len(f)+1, 0), filled(len(f)+20, 1), filled(1000, 0), filled(len(f)+1, 101)}
	if len(f) > 0 {
		list = append(list, nil, Divisor{}, filled(len(f)-1, 0), filled(len(f)-1, -1))
	}
	if len(f) != 1 {
		list = append(list, Divisor{0}, Divisor{math.MinInt})
	}
	if len(f) == 0 {
		return list
	}
	for i, n := range beyondCoef() {
		list = append(list, filled(len(f), n), unit(len(f), i%len(f), n))
	}
	for i := range min(len(f), 20) {
		list = append(list, unit(len(f), i, 101), with(filled(len(f), 1), i, -101))
	}
	return append(list, unit(len(f), len(f)-1, math.MinInt), unit(len(f), len(f)-1, math.MaxInt))
}

func divisorsAndNone(f Fan) []Divisor {
	return append(goodDivisors(f), badDivisors(f)...)
}

// divisorFans has smooth fans with 3 rays, with 4 and with many, small ones and large ones, from any first ray on.
func divisorFans() []Fan {
	list := builtFans(3)
	for i, f := range list {
		list[i] = turnedTo(f, i%len(f))
	}
	list = append(list, allTurns(planeFan())...)
	for _, f := range append(largeFans(), longFan(8, 3), kindFan(0), kindFan(1), kindFan(-2), kindFan(3)) {
		list = append(list, allTurns(f)...)
	}
	for _, f := range []Fan{longFan(13, 5), longFan(19, 5), longFan(20, 3), longFan(20, 7), evenFan()} {
		list = append(list, f, turnedTo(f, 1), turnedTo(f, 8), turnedTo(f, len(f)-1))
	}
	return list
}

// evenFan has 20 small rays.
func evenFan() Fan {
	f := roundFan(2, 16)
	for i := range 4 {
		f = blownUp(f, 5*i)
	}
	return f
}

// wholeFans has fans that are not smooth.
func wholeFans() []Fan {
	list := append(wideFans(), steepFan(3), roundFan(4, 20), roundFan(7, 17), wheel(20), wheel(3), fan(1, 0, 0, 1, -1, -2), fan(2, 1, -1, 1, -1, -2))
	for i, f := range list {
		list[i] = turnedTo(f, i%len(f))
	}
	return list
}

// unsmoothLists has fans that are not smooth, and lists that are no fans.
func unsmoothLists() []Fan {
	return append(wholeFans(), badFans()...)
}

// coefPairs has pairs of divisors, each one with itself and with some others; what is none is among them.
func coefPairs(f Fan) [][2]Divisor {
	good, bad := goodDivisors(f), badDivisors(f)
	var list [][2]Divisor
	for i, d := range good {
		for _, k := range []int{i, i + 1, i*7 + 3} {
			list = append(list, [2]Divisor{d, good[k%len(good)]})
		}
	}
	for i, d := range bad {
		other := good[i%len(good)]
		list = append(list, [2]Divisor{d, other}, [2]Divisor{other, d}, [2]Divisor{d, d})
	}
	return list
}
