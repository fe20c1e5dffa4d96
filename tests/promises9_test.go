package tests

import (
	"fmt"
	"strings"
	"testing"

	"loop.example/toricfans/impl"
)

// These tests hold Execute against the promises of chapter 9, as those of the chapters 1 to 8 do.

// endOf returns all lines of an output, the last of which tells the number of rays.
func endOf(t *testing.T, text string) []string {
	t.Helper()
	output := impl.Execute(text)
	lines := linesOf(output)
	if len(lines) == 0 || !strings.HasSuffix(output, "\n") || !strings.HasPrefix(lines[len(lines)-1], "rays ") {
		t.Fatalf("Execute(%q) returned %q", text, output)
	}
	return lines
}

// withRoomFor has scripts of complete lines, to which some bytes can be added: some that are as long as they can be,
// and some of every kind.
func withRoomFor(bytes int) []string {
	list := []string{"", "\n", "show\n", "kind 2\ntimes 3\n", "blow 0\nblow 1\nblow 2\n", "zzz\nblow x\n", "divisor 0 0 0\n", "least\n\n"}
	for size := 600 - bytes - 20; size <= 600-bytes; size++ {
		list = append(list, strings.Repeat("\n", size), strings.Repeat("y", size-1)+"\n", "kind 3\n"+strings.Repeat("x", size-8)+"\n")
	}
	for _, text := range scripts(2000) {
		for len(text) > 600-bytes {
			text = text[:strings.LastIndexByte(text[:len(text)-1], '\n')+1]
		}
		list = append(list, text)
	}
	return list
}

func TestPromise93(t *testing.T) {
	if got := impl.Execute(""); got != "rays 3\n" {
		t.Errorf("an empty script prints %q", got)
	}
	all := 0
	for _, text := range append(withRoomFor(0), strings.Repeat("\n", 601), strings.Repeat("x", 5000)) {
		output := impl.Execute(text)
		if output == "" {
			t.Errorf("Execute(%q) returned nothing", text)
		}
		for _, last := range []string{"x", "show", "kind 5", "blow 0", "least", " ", "\r", "\xff\x00"} {
			if len(text)+len(last) > 600 {
				continue
			}
			all++
			if got := impl.Execute(text + last); got != output {
				t.Errorf("Execute(%q) returned %q, and without the last line %q", text+last, got, output)
			}
		}
	}
	atLeast(t, all, 5000)
}

func TestPromise94(t *testing.T) {
	all, rays := 0, map[string]bool{}
	for _, text := range withRoomFor(11) {
		before, after := endOf(t, text), endOf(t, text+"zzz\nblow x\n")
		last := len(before) - 1
		all++
		rays[before[last]] = true
		if due := script(append(before[:last:last], "what", "no", before[last])...); script(after...) != due {
			t.Errorf("behind %q the lines print %q, not %q", text, script(after...), due)
		}
	}
	atLeast(t, all, 2000)
	atLeast(t, len(rays), 5)
}

func TestPromise95(t *testing.T) {
	all, shown := 0, map[string]bool{}
	for _, text := range withRoomFor(10) {
		before, after := endOf(t, text), endOf(t, text+"show\nshow\n")
		last := len(before) - 1
		all++
		shown[after[last]] = true
		if due := script(append(before[:last:last], after[last], after[last], before[last])...); script(after...) != due {
			t.Errorf("behind %q the lines print %q, not %q", text, script(after...), due)
		}
	}
	atLeast(t, all, 2000)
	atLeast(t, len(shown), 500)
}

func TestPromise96(t *testing.T) {
	all := 0
	for k := -10; k <= 200; k++ {
		f, ok := impl.SurfaceKind(k)
		if !ok {
			continue
		}
		all++
		numbers := numbersText(needed[[]int](t, "FanNumbers", f)(impl.FanNumbers(f)))
		for _, line := range []string{fmt.Sprintf("kind %d\n", k), fmt.Sprintf("kind %03d\n", k)} {
			if got := impl.Execute(line + "numbers\nsquare\n"); got != "ok\n"+numbers+"\n8\nrays 4\n" {
				t.Errorf("%q, its numbers and its square print %q", line, got)
			}
		}
	}
	atLeast(t, all, 101)
}

func TestPromise97(t *testing.T) {
	all := 0
	for n := 0; n < 1000; n++ {
		for q := 0; q < 1000; q++ {
			if n > 60 && n < 980 && q > 20 && (n+q)%29 > 0 {
				continue
			}
			list, ok := impl.FractionOf(n, q)
			if !ok {
				continue
			}
			all++
			line := fmt.Sprintf("fraction %d %d\n", n, q)
			if got := impl.Execute(line); got != numbersText(list)+"\nrays 3\n" {
				t.Errorf("%q prints %q, and the fraction is %v", line, got, list)
			}
		}
	}
	atLeast(t, all, 20000)
}
