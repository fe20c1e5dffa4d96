package tests

import (
	"fmt"
	"strings"
)

// desk is what a script works on, with the values of the chapters 2 to 5 as the tests of these chapters find them.
type desk struct {
	f Fan
	d Divisor
}

func newDesk() *desk {
	return &desk{planeFan(), filled(3, 1)}
}

// script makes lines of texts.
func script(lines ...string) string {
	var text strings.Builder
	for _, line := range lines {
		text.WriteString(line + "\n")
	}
	return text.String()
}

// linesOf goes through a script byte by byte, and leaves out what is behind the last newline.
func linesOf(text string) []string {
	var lines []string
	line := []byte{}
	for i := range len(text) {
		if text[i] == '\n' {
			lines = append(lines, string(line))
			line = nil
		} else {
			line = append(line, text[i])
		}
	}
	return lines
}

// outputOf returns what a script prints, as the document tells it.
func outputOf(text string) string {
	if len(text) > 600 {
		return "too long\n"
	}
	k := newDesk()
	var output strings.Builder
	for _, line := range linesOf(text) {
		output.WriteString(k.answer(line) + "\n")
	}
	return output.String() + fmt.Sprintf("rays %d\n", len(k.f))
}

func plainWords() []string {
	return []string{"least", "rays", "numbers", "show", "degrees", "nef", "ample", "square", "euler", "genus", "sections", "inner", "corners"}
}

func restWords() []string {
	return []string{"kind", "blow", "down", "divisor", "times", "fraction", "cone"}
}

func (k *desk) answer(line string) string {
	for _, word := range plainWords() {
		if line == word {
			return k.alone(word)
		}
	}
	for _, word := range restWords() {
		if len(line) > len(word) && line[:len(word)+1] == word+" " {
			return k.withRest(word, line[len(word)+1:])
		}
	}
	return "what"
}

// restNumbers reads a rest byte by byte: a number ends at a space, or at the end.
func restNumbers(rest string) ([]int, bool) {
	var list []int
	size, digits, sign := 0, 0, 1
	for i, c := range []byte(rest + " ") {
		switch {
		case c == '-' && (i == 0 || rest[i-1] == ' '):
			sign = -1
		case c >= '0' && c <= '9' && digits < 3:
			size, digits = 10*size+int(c-'0'), digits+1
		case c == ' ' && digits > 0:
			list = append(list, sign*size)
			size, digits, sign = 0, 0, 1
		default:
			return nil, false
		}
	}
	return list, true
}

func (k *desk) withRest(word string, rest string) string {
	due := map[string]int{"divisor": len(k.f), "fraction": 2, "cone": 4}[word]
	list, ok := restNumbers(rest)
	if !ok || len(list) != max(1, due) {
		return "no"
	}
	return k.withNumbers(word, list)
}

func (k *desk) withNumbers(word string, list []int) string {
	n := list[0]
	switch word {
	case "kind":
		return k.setFan(kindFan(n), n >= 0 && n <= 100)
	case "blow":
		return k.setFan(blowOf(k.f, n))
	case "down":
		return k.setFan(downOf(k.f, n))
	case "divisor":
		return k.setDivisor(list)
	case "times":
		if !inCoef(n) {
			return "no"
		}
		return k.setDivisor(times(k.d, n))
	case "fraction":
		if !isPair(n, list[1]) {
			return "no"
		}
		return numbersText(fractionOf(n, list[1]))
	}
	if c := cone(n, list[1], list[2], list[3]); isCone(c) {
		return vectorsText(longBaseOf(c))
	}
	return "no"
}

func (k *desk) alone(word string) string {
	table := tableOf(k.f)
	switch word {
	case "least":
		return k.setFan(leastOf(k.f), true)
	case "rays":
		return vectorsText(k.f)
	case "numbers":
		return numbersText(numbersOfFan(k.f))
	case "show":
		return numbersText(k.d)
	case "degrees":
		return numbersText(degreesIn(table, k.d))
	case "nef":
		return verdictText(isNef(table, k.d))
	case "ample":
		return verdictText(isAmple(table, k.d))
	case "corners":
		return k.cornersText(table)
	case "sections", "inner":
		return k.sectionsText(word)
	}
	return k.productText(table, word)
}

func (k *desk) productText(table [][]int, word string) string {
	switch word {
	case "square":
		return fmt.Sprint(productIn(table, k.d, k.d))
	case "euler":
		return fmt.Sprint(1 + productIn(table, k.d, plus(k.d, filled(len(k.f), 1)))/2)
	}
	return fmt.Sprint(1 + productIn(table, k.d, plus(k.d, filled(len(k.f), -1)))/2)
}

func (k *desk) sectionsText(word string) string {
	if !limitsOf(k.f, k.d).areTold() {
		return "no"
	}
	sections := sectionsOf(k.f, k.d)
	if word == "sections" {
		return fmt.Sprint(len(sections))
	}
	_, inner := onOf(k.f, k.d, sections)
	return fmt.Sprint(inner)
}

func (k *desk) cornersText(table [][]int) string {
	corners := cornersOf(k.f, k.d)
	if !isNef(table, k.d) || !areVecs(corners) {
		return "no"
	}
	return vectorsText(corners)
}

func (k *desk) setFan(f Fan, ok bool) string {
	if !ok {
		return "no"
	}
	k.f, k.d = f, filled(len(f), 1)
	return "ok"
}

func (k *desk) setDivisor(d Divisor) string {
	if !hasCoefs(k.f, d) {
		return "no"
	}
	k.d = d
	return "ok"
}

func numbersText(list []int) string {
	return strings.Trim(fmt.Sprint(list), "[]")
}

func vectorsText(list []Vec) string {
	text := ""
	for _, a := range list {
		text += fmt.Sprintf(" %d,%d", a.X, a.Y)
	}
	return strings.TrimPrefix(text, " ")
}

func verdictText(holds bool) string {
	if holds {
		return "yes"
	}
	return "not"
}

// longBaseOf finds the second vector of a base as the one with the determinant 1 with U and the least one with V, by trial,
// and goes on from there; unlike baseOf, it needs no search for sums, which would be too long for cones of any size.
func longBaseOf(c Cone) []Vec {
	n := vecDetOf(c.U, c.V)
	if n == 1 {
		return []Vec{c.U, c.V}
	}
	j := 1
	for (c.V.X+j*c.U.X)%n != 0 || (c.V.Y+j*c.U.Y)%n != 0 {
		j++
	}
	second := Vec{X: (c.V.X + j*c.U.X) / n, Y: (c.V.Y + j*c.U.Y) / n}
	return append([]Vec{c.U}, longBaseOf(Cone{U: second, V: c.V})...)
}
