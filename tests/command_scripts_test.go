package tests

import (
	"fmt"
	"slices"
	"strings"
	"sync"
	"testing"

	"loop.example/toricfans/impl"
)

func TestScriptsWithoutLines(t *testing.T) {
	for _, text := range []string{"", "x", "rays", "kind 2", " ", "\r", "\x00", "blow 0", "zzz", strings.Repeat("x", 600)} {
		checkScript(t, text, "rays 3\n")
	}
	checkScript(t, "\n", "what\nrays 3\n")
	checkScript(t, "\n\n", "what\nwhat\nrays 3\n")
	checkScript(t, " \n", "what\nrays 3\n")
	checkScript(t, "\r\n", "what\nrays 3\n")
}

// TestLastLines has a last line without a newline, which is ignored, whatever it holds.
func TestLastLines(t *testing.T) {
	for _, last := range []string{"", "rays", "kind 2", "blow 0", "zzz", "blow x", " ", "\r", "\xff", "too long", "divisor 1 1 1"} {
		checkScript(t, last, "rays 3\n")
		checkScript(t, "blow 0\n"+last, "ok\nrays 4\n")
		checkScript(t, "\n"+last, "what\nrays 3\n")
		checkScript(t, "show\n\nshow\n"+last, "1 1 1\nwhat\n1 1 1\nrays 3\n")
	}
	checkScript(t, "kind 2\nrays\nkind 3", "ok\n1,0 0,1 -1,2 0,-1\nrays 4\n")
	checkScript(t, "rays\r\nshow\n", "what\n1 1 1\nrays 3\n")
	checkScript(t, "rays\rshow\n", "what\nrays 3\n")
	checkScript(t, "rays\x00\nrays\u2028show\u0085show\n", "what\nwhat\nrays 3\n")
}

func TestEmptyLines(t *testing.T) {
	checkScript(t, "\nshow\n", "what\n1 1 1\nrays 3\n")
	checkScript(t, "show\n\n", "1 1 1\nwhat\nrays 3\n")
	checkScript(t, "\n\nblow 0\n\n\nshow\n\n", "what\nwhat\nok\nwhat\nwhat\n1 1 1 1\nwhat\nrays 4\n")
}

// TestScriptsAtTheLimit has scripts of any size around the limit: of short lines, of long ones, and of one.
func TestScriptsAtTheLimit(t *testing.T) {
	for _, part := range []string{"\n", "x", "x\n", "show\n", "blow 0\n", "kind 2\n", " ", "-", "0", "\xff", "é", "times -1\n", strings.Repeat("y", 99) + "\n", "divisor 1 2 3\nshow\n"} {
		all := strings.Repeat(part, 700)
		for size := 590; size <= 610; size++ {
			for _, text := range []string{all[:size], all[:size-1] + "\n"} {
				due := outputOf(text)
				if size > 600 {
					due = "too long\n"
				}
				checkScript(t, text, due)
			}
		}
	}
	checkScript(t, strings.Repeat("\n", 600), strings.Repeat("what\n", 600)+"rays 3\n")
	checkScript(t, strings.Repeat("\n", 601), "too long\n")
	checkScript(t, strings.Repeat("x", 600), "rays 3\n")
	checkScript(t, strings.Repeat("x", 599)+"\n", "what\nrays 3\n")
	checkScript(t, strings.Repeat("x", 601), "too long\n")
	checkScript(t, strings.Repeat("x", 600)+"\n", "too long\n")
	checkScript(t, strings.Repeat("é", 300), "rays 3\n")
	checkScript(t, strings.Repeat("é", 301), "too long\n")
	checkScript(t, "fraction 7 3\n"+strings.Repeat("rays\n", 500), "too long\n")
	checkScript(t, "kind "+strings.Repeat("0", 594)+"\n", "no\nrays 3\n")
	checkScript(t, "divisor"+strings.Repeat(" 1", 296)+"\n", "no\nrays 3\n")
	checkScript(t, strings.Repeat("x", 1000000), "too long\n")
}

// lineFor returns a line that may be of any kind, most often one that is as told for a bench.
func (s *series) lineFor(k *desk) string {
	choose := func(list ...string) string { return list[s.next(len(list))] }
	number := func(least, most int) string { return fmt.Sprint(least + s.next(most-least+1)) }
	switch s.next(16) {
	case 0, 1, 2:
		return "blow " + number(0, len(k.f)-s.next(2))
	case 3:
		return "down " + number(-1, len(k.f))
	case 4:
		return "kind " + choose("0", "1", "2", "3", "9", "100", "101", "-1")
	case 5:
		return "times " + choose("-1", "0", "2", "3", "5", "-2", "20", "101")
	case 6, 7, 8:
		line, most := "divisor", []int{1, 3, 9, 60, 100, 102}[s.next(6)]
		for range len(k.f) + s.next(12)/11 {
			line += " " + number(-s.next(2)*most, most)
		}
		return line
	case 9:
		return "fraction " + number(0, 200) + " " + number(0, 100)
	case 10:
		return "cone " + number(-9, 9) + " " + number(-9, 9) + " " + number(-9, 9) + " " + number(-9, 9)
	}
	return plainWords()[s.next(len(plainWords()))]
}

// spoilt puts a byte into a line, or takes one out, or repeats it.
func (s *series) spoilt(line string) string {
	i := s.next(len(line))
	switch s.next(3) {
	case 0:
		return line[:i] + line[i+1:]
	case 1:
		return line[:i+1] + line[i:]
	}
	bytes := " -+0123456789abekmnrst\t\r\x00\xff,"
	return line[:i] + string(bytes[s.next(len(bytes))]) + line[i:]
}

// script returns a script of some lines, a few of them spoilt, with its output.
func (s *series) script() (string, string) {
	k := newDesk()
	text, output := "", ""
	for range 1 + s.next(40) {
		line := s.lineFor(k)
		if s.next(8) == 0 {
			line = s.spoilt(line)
		}
		if len(text)+len(line)+1 > 600 {
			break
		}
		text += line + "\n"
		output += k.answer(line) + "\n"
	}
	return text, output + fmt.Sprintf("rays %d\n", len(k.f))
}

// scripts has some scripts that are always the same ones.
func scripts(number int) []string {
	s := series(2026)
	var list []string
	for range number {
		text, _ := s.script()
		list = append(list, text)
	}
	return list
}

// TestScriptsOfAnyLines holds scripts of many lines against what the document's words make of them,
// and looks whether all that a line may print is printed often enough, by each word.
func TestScriptsOfAnyLines(t *testing.T) {
	s := series(9)
	answers := map[string]int{}
	for range 10000 {
		text, due := s.script()
		if got := impl.Execute(text); got != due {
			t.Fatalf("Execute(%q) returned %q, not %q", text, got, due)
		}
		for i, line := range linesOf(text) {
			word, _, _ := strings.Cut(line, " ")
			answers[word+" "+strings.Split(due, "\n")[i]]++
		}
	}
	for _, word := range []string{"kind", "blow", "down", "divisor", "times"} {
		atLeast(t, answers[word+" ok"], 300)
		atLeast(t, answers[word+" no"], 300)
	}
	for _, word := range []string{"fraction", "cone", "sections", "inner", "corners"} {
		atLeast(t, answers[word+" no"], 100)
	}
	for _, word := range []string{"nef", "ample"} {
		atLeast(t, answers[word+" yes"], 100)
		atLeast(t, answers[word+" not"], 100)
	}
	atLeast(t, len(answers), 5000)
}

// TestScriptsOfAnyBytes has scripts of bytes that make words only by chance.
func TestScriptsOfAnyBytes(t *testing.T) {
	s := series(17)
	bytes := "\n\n\n  kind 01-\xff\r\x00"
	for range 3000 {
		var text []byte
		for range s.next(620) {
			text = append(text, bytes[s.next(len(bytes))])
		}
		checkScript(t, string(text), outputOf(string(text)))
	}
	for c := range 256 {
		for _, text := range []string{"%c\n", "rays%c\n", "%crays\n", "kind%c1\n", "kind 1%c\n", "kind %c1\n", "times 1%c1\n"} {
			line := strings.ReplaceAll(text, "%c", string([]byte{byte(c)}))
			checkScript(t, line, outputOf(line))
		}
	}
}

// TestScriptsKeepNothing asks the same scripts in one order, in the opposite one, and twice.
func TestScriptsKeepNothing(t *testing.T) {
	list := append(scripts(500), "", "show\nrays\n", strings.Repeat("x", 601))
	var outputs []string
	for _, text := range list {
		outputs = append(outputs, impl.Execute(text))
	}
	for i, text := range slices.Backward(list) {
		if got := impl.Execute(text); got != outputs[i] {
			t.Errorf("Execute(%q) returned %q, and before %q", text, got, outputs[i])
		}
		if got := impl.Execute(text); got != outputs[i] {
			t.Errorf("Execute(%q) returned %q at the second time, and before %q", text, got, outputs[i])
		}
	}
	checkScript(t, "show\nrays\n", "1 1 1\n1,0 0,1 -1,-1\nrays 3\n")
}

func TestScriptsAtTheSameTime(t *testing.T) {
	list := scripts(100)
	var workers sync.WaitGroup
	for worker := range 8 {
		workers.Go(func() {
			for i := range list {
				text := list[(i+13*worker)%len(list)]
				if got, due := impl.Execute(text), outputOf(text); got != due {
					t.Errorf("Execute(%q) returned %q, not %q", text, got, due)
				}
			}
		})
	}
	workers.Wait()
}
