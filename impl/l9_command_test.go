package impl

import (
	"slices"
	"strings"
	"testing"
)

func TestNumberOf(t *testing.T) {
	good := map[string]int{
		"0": 0, "00": 0, "000": 0, "-0": 0, "-00": 0, "-000": 0, "7": 7, "07": 7, "007": 7, "-7": -7, "-07": -7, "-007": -7,
		"10": 10, "-10": -10, "100": 100, "-100": -100, "999": 999, "-999": -999,
	}
	for text, due := range good {
		if n, ok := numberOf(text); !ok || n != due {
			t.Errorf("the number of %q is %d, %v", text, n, ok)
		}
	}
	bad := []string{
		"", "-", "--", "--1", "-1-", "1-", "1-1", "+", "+1", "+0", "-+1", "+-1", "0000", "1000", "-0000", "-1000", "0007", "x", "1x", "x1", "-x",
		" ", " 1", "1 ", "- 1", "\t1", "1\r", "1,2", "1.0", "1e2", "0x1", "1_0", "١", "\xff", "1\x00", strings.Repeat("9", 590), "-" + strings.Repeat("0", 590),
	}
	for _, text := range bad {
		if n, ok := numberOf(text); ok {
			t.Errorf("the number of %q is %d", text, n)
		}
	}
}

// refusedBy returns what is printed for what ends a line, or nothing if it does not end it.
func refusedBy(end func()) (answer string) {
	defer func() {
		if refused, ok := recover().(refusal); ok {
			answer = refused.answer
		}
	}()
	end()
	return ""
}

func TestRefusals(t *testing.T) {
	cases := []struct {
		end func()
		due string
	}{
		{func() { told(7, true) }, ""},
		{func() { told(7, false) }, "no"},
		{func() { found(plainWords(), "rays") }, ""},
		{func() { found(plainWords(), "kind") }, "what"},
		{func() { found(plainWords(), "") }, "what"},
		{func() { found(restWords(), "kind") }, ""},
		{func() { found(restWords(), "rays") }, "what"},
		{func() { numbersOf("1 2", 2) }, ""},
		{func() { numbersOf("1 2", 1) }, "no"},
		{func() { numbersOf("1 2", 3) }, "no"},
		{func() { numbersOf("1 x", 2) }, "no"},
		{func() { numbersOf("1  2", 2) }, "no"},
		{func() { numbersOf("1  2", 3) }, "no"},
		{func() { numbersOf("", 0) }, "no"},
		{func() { numbersOf("", 1) }, "no"},
	}
	for i, c := range cases {
		if got := refusedBy(c.end); got != c.due {
			t.Errorf("case %d is refused by %q, not %q", i, got, c.due)
		}
	}
}

func TestNumbersOf(t *testing.T) {
	if list := numbersOf("7 -08 000 999", 4); !slices.Equal(list, []int{7, -8, 0, 999}) {
		t.Errorf("the numbers are %v", list)
	}
}

// Each word is either one that stands alone or one with a rest, and stands for a method of its own.
func TestWords(t *testing.T) {
	plain, rest := plainWords(), restWords()
	if len(plain) != 13 || len(rest) != 7 {
		t.Errorf("there are %d words and %d with a rest", len(plain), len(rest))
	}
	for word, run := range plain {
		if run == nil || rest[word] != nil {
			t.Errorf("%q stands for nothing, or for two", word)
		}
	}
	for word, run := range rest {
		if run == nil {
			t.Errorf("%q stands for nothing", word)
		}
	}
}

func TestJoined(t *testing.T) {
	cases := []struct {
		list []Vec
		due  string
	}{
		{nil, ""},
		{[]Vec{{1, -2}}, "1,-2"},
		{[]Vec{{0, 0}, {-1000, 1000}}, "0,0 -1000,1000"},
	}
	for _, c := range cases {
		if got := joined(c.list, Vec.text); got != c.due {
			t.Errorf("%v is printed as %q", c.list, got)
		}
	}
}

// A bench is left as it is by all lines that are refused, also with the memory of its lists.
func TestRefusedLinesLeaveTheBench(t *testing.T) {
	b := newBench()
	b.answer("blow 1")
	b.answer("divisor 4 3 2 1")
	before := *b
	fan, coefs := slices.Clone(b.fan), slices.Clone(b.coefs)
	lines := []string{
		"", " ", "x", "least ", "kind", "kind ", "kind -1", "kind 101", "kind 1 1", "blow 4", "blow -1", "down 0", "down 4", "divisor 1 1 1", "divisor 1 1 1 1 1",
		"divisor 1 1 1 101", "divisor 1 1 1 x", "times 26", "times 101", "times", "fraction 4 2", "cone 1 0 1 0",
	}
	for _, line := range lines {
		if got := b.answer(line); got != "no" && got != "what" {
			t.Errorf("%q is answered by %q", line, got)
		}
		if &b.fan[0] != &before.fan[0] || &b.coefs[0] != &before.coefs[0] || !slices.Equal(b.fan, fan) || !slices.Equal(b.coefs, coefs) {
			t.Fatalf("%q leaves %v and %v", line, b.fan, b.coefs)
		}
	}
}

// No line ends in a panic, whatever it is: without a bench every word would.
func TestAnswersRecover(t *testing.T) {
	var none *bench
	for _, line := range []string{"rays", "show", "kind 1", "blow 0", "divisor 1 1 1"} {
		if got := none.answer(line); got != "no" {
			t.Errorf("%q without a bench is answered by %q", line, got)
		}
	}
	if got := none.answer("zzz"); got != "what" {
		t.Errorf("a line that is none is answered by %q", got)
	}
}
