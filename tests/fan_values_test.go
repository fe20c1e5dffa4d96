package tests

import (
	"math"
	"slices"
)

type Fan = []Vec

// fan is short for a list of vectors given by both numbers of each.
func fan(numbers ...int) Fan {
	var f Fan
	for i := 0; i+1 < len(numbers); i += 2 {
		f = append(f, Vec{X: numbers[i], Y: numbers[i+1]})
	}
	return f
}

// nextOf returns the ray behind the one with an index, going round.
func nextOf(f Fan, i int) Vec {
	return f[(i+1)%len(f)]
}

// lastOf returns the ray ahead of the one with an index, going round.
func lastOf(f Fan, i int) Vec {
	return f[(i+len(f)-1)%len(f)]
}

func differs(f Fan) bool {
	for i, a := range f {
		if slices.Contains(f[:i], a) {
			return false
		}
	}
	return true
}

// rounds returns how often a list of rays, each less than half a turn behind the last one, leads round.
func rounds(f Fan) int {
	sum := 0.0
	for i, a := range f {
		b := nextOf(f, i)
		sum += math.Atan2(float64(vecDetOf(a, b)), float64(vecProductOf(a, b)))
	}
	return int(math.Round(sum / (2 * math.Pi)))
}

func coneOf(f Fan, i int) Cone {
	return Cone{U: f[i], V: nextOf(f, i)}
}

func isFan(f Fan) bool {
	if len(f) < 3 || len(f) > 20 {
		return false
	}
	for i := range f {
		if !isCone(coneOf(f, i)) {
			return false
		}
	}
	return differs(f) && rounds(f) == 1
}

func isSmooth(f Fan) bool {
	for i := range f {
		if vecDetOf(f[i], nextOf(f, i)) != 1 {
			return false
		}
	}
	return isFan(f)
}

// turnedTo returns a list that begins with another one of its rays.
func turnedTo(f Fan, i int) Fan {
	return slices.Concat(f[i:], f[:i])
}

func allTurns(f Fan) []Fan {
	var list []Fan
	for i := range f {
		list = append(list, turnedTo(f, i))
	}
	return list
}

func reversedFan(f Fan) Fan {
	f = slices.Clone(f)
	slices.Reverse(f)
	return f
}

// sortedFan returns vectors by the angles of their directions.
func sortedFan(f Fan) Fan {
	f = slices.Clone(f)
	slices.SortFunc(f, func(a, b Vec) int {
		if angle(a) < angle(b) {
			return -1
		}
		return 1
	})
	return f
}

// blownUp puts the sum of both rays of a cone between them, whatever it is.
func blownUp(f Fan, i int) Fan {
	a, b := f[i], nextOf(f, i)
	return slices.Insert(slices.Clone(f), i+1, Vec{X: a.X + b.X, Y: a.Y + b.Y})
}

// planeFan is the fan of the plane.
func planeFan() Fan {
	return fan(1, 0, 0, 1, -1, -1)
}

// builtFans has all fans that are made of that of the plane by some blowups, beginning with itself.
func builtFans(blowups int) []Fan {
	list := []Fan{planeFan()}
	last := list
	for range blowups {
		var next []Fan
		for _, f := range last {
			for i := range f {
				next = append(next, blownUp(f, i))
			}
		}
		list = append(list, next...)
		last = next
	}
	return list
}

// kindFan is the fan with the numbers 0, -k, 0 and k.
func kindFan(k int) Fan {
	return fan(1, 0, 0, 1, -1, k, 0, -1)
}

// longFan blows the fan of the plane up to some rays; the step tells where.
func longFan(rays int, step int) Fan {
	f := planeFan()
	for i := 0; len(f) < rays; i += step {
		f = blownUp(f, i%len(f))
	}
	return f
}

// largeFans has smooth fans with rays near the limit.
func largeFans() []Fan {
	return []Fan{
		fan(1000, 1, 999, 1, -1000, -1, -999, -1), fan(1000, -1, 1, 0, 1000, 1, -1, 0), kindFan(1000), kindFan(-1000),
		fan(1000, 999, -999, -998, -1, -1), fan(499, 500, -500, -501, 1, 1), fan(0, 1, -1, -1000, 0, -1, 1, 1000),
		fan(1000, 1, -1, 0, -999, -1), fan(1, 1000, 0, 1, -1, -1000, 0, -1), fan(1, 0, 500, 1, 999, 2, 499, 1, -1, 0, 0, -1),
	}
}

// smoothFans has smooth fans with different first rays: few rays and many, small ones and large ones.
func smoothFans() []Fan {
	list := builtFans(4)
	for i, f := range list {
		list[i] = turnedTo(f, i%len(f))
	}
	for _, f := range largeFans() {
		list = append(list, allTurns(f)...)
	}
	for k := -3; k <= 3; k++ {
		list = append(list, allTurns(kindFan(k))...)
	}
	for _, rays := range []int{8, 13, 19, 20} {
		for step := 3; step <= 7; step += 2 {
			list = append(list, allTurns(longFan(rays, step))...)
		}
	}
	return list
}

// fansOf has all tidy fans with some rays out of a list.
func fansOf(rays []Vec, size int) []Fan {
	var list []Fan
	var choose func(chosen Fan, from int)
	choose = func(chosen Fan, from int) {
		if f := sortedFan(chosen); len(chosen) == size && isFan(f) {
			list = append(list, f)
		}
		for i := from; i < len(rays) && len(chosen) < size; i++ {
			choose(append(slices.Clone(chosen), rays[i]), i+1)
		}
	}
	choose(nil, 0)
	return list
}

// wideFans has fans that are not smooth, with rays near the limit.
func wideFans() []Fan {
	return []Fan{
		fan(1000, 999, -999, 1000, -1000, -999, 999, -1000), fan(1, -1000, 1, 1000, -1, 0), fan(1000, -1, -999, 1, 1, -1),
		fan(1000, 999, -1000, 999, 1, -1000), fan(999, 1000, -1000, -1, 1, -999), fan(1, 1000, -1000, -1, 1, -1000),
		fan(1, 0, 999, 1000, -1000, -7, 1000, -3), fan(1, 0, -1000, 1, -1000, -999),
	}
}

// roundFan has primitive vectors with numbers up to a size, as many as are asked for, spread all round.
func roundFan(size int, rays int) Fan {
	all := sortedFan(primitives(size))
	var f Fan
	for i := range rays {
		f = append(f, all[i*len(all)/rays])
	}
	return f
}

// wheel has large primitive vectors spread all round.
func wheel(rays int) Fan {
	var f Fan
	for i := range rays {
		g := 2 * math.Pi * (float64(i) + 0.3) / float64(rays)
		a := Vec{X: int(999 * math.Cos(g)), Y: int(999 * math.Sin(g))}
		n := commonDivisor(a.X, a.Y)
		f = append(f, Vec{X: a.X / n, Y: a.Y / n})
	}
	return f
}

// goodFans has fans of all kinds with different first rays.
func goodFans() []Fan {
	list := smoothFans()
	for i, f := range slices.Concat(fansOf(primitives(2), 3), fansOf(primitives(2), 4)) {
		list = append(list, turnedTo(f, i%len(f)))
	}
	for _, f := range append(wideFans(), roundFan(4, 20), roundFan(7, 20), roundFan(3, 19), roundFan(2, 16), wheel(20), wheel(11), wheel(3)) {
		list = append(list, allTurns(f)...)
	}
	return list
}

// doubles has lists of different rays that lead round more than once.
func doubles() []Fan {
	pentagon := fan(1, 0, 1, 2, -2, 1, -2, -1, 1, -2)
	all := roundFan(2, 16)
	star := Fan{}
	for i := range all {
		star = append(star, all[i*7%16])
	}
	twice := Fan{}
	for i := range 7 {
		twice = append(twice, roundFan(3, 7)[i*2%7])
	}
	return []Fan{
		{pentagon[0], pentagon[2], pentagon[4], pentagon[1], pentagon[3]}, star, twice,
		fan(1, 0, -1, 1, 0, -1, 1, 1, -1, 0, 1, -1, 0, 1, -1, -1),
	}
}

// badFans has each kind of what is no fan.
func badFans() []Fan {
	list := []Fan{
		nil, {}, fan(1, 0), fan(1, 0, 0, 1), fan(1, 0, -1, 0), fan(0, 0, 0, 0, 0, 0),
		longFan(21, 5), roundFan(4, 21), wheel(40), slices.Repeat(planeFan(), 1000),
		slices.Repeat(planeFan(), 2), slices.Repeat(kindFan(1), 3), fan(1, 0, 1, 0, 0, 1, -1, -1), fan(1, 0, 0, 1, -1, -1, 1, 0),
		fan(1, 0, 0, 1, 0, 1, -1, -1), fan(1, 0, 0, 1, 1, 0, 0, 1, -1, -1), fan(1, 0, 0, 1, -1, -1, 0, 1, -1, -1),
		fan(1, 0, 0, 1, -1, 0), fan(1, 0, 0, 1, -1, 0, -1, 1), fan(1, 0, 0, 1, 1, 1), fan(1, 0, 0, 1, -1, 1), fan(1, 0, 2, 1, 1, 1),
		fan(1, 0, 0, 1, -1, 1, -1, 0), fan(1, 0, -1, 0, 0, -1), fan(1, 0, 0, 1, 0, -1), fan(0, 1, -1, 0, 0, -1), fan(1, 0, -1, 1, -1, 0),
		fan(1, 0, 1, 1, 0, 1, 1, 2, -1, -1), fan(1, 0, -1, 1, 0, 1, -1, -1), fan(1, 0, -1, -1, 0, 1),
		fan(2, 0, 0, 1, -1, -1), fan(1, 0, 0, 2, -1, -1), fan(1, 0, 0, 1, -2, -2), fan(1, 0, 0, 1, -1, -1, 0, 0),
		fan(0, 0, 1, 0, 0, 1, -1, -1), fan(1, 0, 0, 0, 0, 1, -1, -1), fan(1, 0, 0, 1, -1000, -1000), fan(1000, 0, 0, 1, -1, -1),
		fan(3, 0, 0, wrapper, -1, -1), fan(wrapper, 0, 0, 3, -1, -1), fan(math.MinInt, math.MinInt, math.MaxInt, 0, 0, math.MaxInt),
		fan(1, 0, math.MinInt, 1, math.MaxInt, math.MinInt),
	}
	for _, f := range slices.Concat(builtFans(2), wideFans(), largeFans(), []Fan{longFan(20, 5), roundFan(4, 20)}) {
		list = append(list, reversedFan(f), turnedTo(reversedFan(f), 1))
	}
	for _, n := range []int{1001, -1001, 1 << 32, math.MaxInt, math.MinInt} {
		for _, a := range []Vec{{X: n, Y: 1}, {X: 1, Y: n}, {X: n, Y: n}, {X: n, Y: 0}, {X: 0, Y: n}, {X: n, Y: -1}, {X: -1, Y: n}} {
			for i := range planeFan() {
				f := planeFan()
				f[i] = a
				list = append(list, f)
			}
			list = append(list, append(kindFan(0), a), append(Fan{a}, kindFan(0)...))
		}
	}
	return append(list, doubles()...)
}

// fansAndNone has fans and what is none.
func fansAndNone() []Fan {
	return append(goodFans(), badFans()...)
}

// edgeIndexes has all indexes of a list, some beyond both ends, and the least and the greatest int.
func edgeIndexes(f Fan) []int {
	list := []int{math.MinInt, math.MinInt + 1, -1 << 32, -1000, -len(f) - 1, -len(f), -2, 1 << 32, math.MaxInt - 1, math.MaxInt}
	for i := -1; i <= len(f)+2; i++ {
		list = append(list, i)
	}
	return append(list, 2*len(f), 2*len(f)+1)
}
