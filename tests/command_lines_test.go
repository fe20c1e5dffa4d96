package tests

import (
	"strings"
	"testing"

	"loop.example/toricfans/impl"
)

// checkScript holds the output of a script against what it is told to be, and against what the document's words make of it.
func checkScript(t *testing.T, text string, due string) {
	t.Helper()
	if got := impl.Execute(text); got != due {
		t.Errorf("Execute(%q) returned %q, not %q", text, got, due)
	}
	if told := outputOf(text); told != due {
		t.Errorf("the output of %q is %q by the tests, not %q", text, told, due)
	}
}

// checkLine holds what one line prints against what it is told to print, and that it changes nothing if it is refused,
// behind lines that made another fan of three rays.
func checkLine(t *testing.T, line string, due string) {
	t.Helper()
	if due == "no" || due == "what" {
		text := script("kind 1", "down 1", "divisor 3 2 1", line, "rays", "show")
		checkScript(t, text, script("ok", "ok", "ok", due, "1,0 -1,1 0,-1", "3 2 1", "rays 3"))
	}
	got, told := impl.Execute(line+"\n"), newDesk().answer(line)
	if first, _, _ := strings.Cut(got, "\n"); first != due || told != due {
		t.Errorf("the line %q prints %q, and by the tests %q, not %q", line, first, told, due)
	}
}

// TestPlainWords has what each word that stands alone prints at the beginning.
func TestPlainWords(t *testing.T) {
	dues := map[string]string{
		"least": "ok", "rays": "1,0 0,1 -1,-1", "numbers": "1 1 1", "show": "1 1 1", "degrees": "3 3 3", "nef": "yes", "ample": "yes",
		"square": "9", "euler": "10", "genus": "1", "sections": "10", "inner": "1", "corners": "-1,-1 2,-1 -1,2",
	}
	for _, word := range plainWords() {
		checkLine(t, word, dues[word])
		checkScript(t, script(word), script(dues[word], "rays 3"))
	}
}

// TestPlainWordsWithRests has a space behind words that stand alone: these are other lines, whatever follows.
func TestPlainWordsWithRests(t *testing.T) {
	for _, word := range plainWords() {
		for _, rest := range []string{" ", "  ", " 0", " 1 1 1", " " + word, " x", " \t"} {
			checkLine(t, word+rest, "what")
		}
	}
}

// TestRestWords has what words with a rest that is as told print at the beginning.
func TestRestWords(t *testing.T) {
	cases := []struct{ line, due string }{
		{"kind 0", "ok"},
		{"kind 2", "ok"},
		{"kind 100", "ok"},
		{"kind 101", "no"},
		{"kind 999", "no"},
		{"kind -1", "no"},
		{"blow 0", "ok"},
		{"blow 2", "ok"},
		{"blow 3", "no"},
		{"blow -1", "no"},
		{"down 0", "no"},
		{"down 3", "no"},
		{"divisor 1 2 3", "ok"},
		{"divisor -100 0 100", "ok"},
		{"divisor -101 0 0", "no"},
		{"divisor 0 0 101", "no"},
		{"times 5", "ok"},
		{"times 100", "ok"},
		{"times -100", "ok"},
		{"times 101", "no"},
		{"times -101", "no"},
		{"fraction 7 3", "3 2 2"},
		{"fraction 2 1", "2"},
		{"fraction 999 1", "999"},
		{"fraction 999 998", strings.TrimSpace(strings.Repeat("2 ", 998))},
		{"fraction 4 2", "no"},
		{"fraction 3 7", "no"},
		{"fraction 7 7", "no"},
		{"fraction 1 1", "no"},
		{"fraction 1 0", "no"},
		{"fraction 7 0", "no"},
		{"fraction 7 -3", "no"},
		{"fraction -7 3", "no"},
		{"fraction 0 0", "no"},
		{"cone 1 0 1 3", "1,0 1,1 1,2 1,3"},
		{"cone 1 0 0 1", "1,0 0,1"},
		{"cone 0 1 -2 -1", "0,1 -1,0 -2,-1"},
		{"cone 999 998 998 997", "no"},
		{"cone 998 997 999 998", "998,997 999,998"},
		{"cone -999 -1 999 -1", vectorsText(longBaseOf(cone(-999, -1, 999, -1)))},
		{"cone 1 0 1 0", "no"},
		{"cone 1 0 -1 0", "no"},
		{"cone 0 1 1 0", "no"},
		{"cone 2 0 0 1", "no"},
		{"cone 1 0 2 2", "no"},
		{"cone 0 0 0 1", "no"},
		{"cone 1 0 0 0", "no"},
	}
	for _, c := range cases {
		checkLine(t, c.line, c.due)
	}
}

// TestRestWordsWithoutRests tells a rest that is empty, which fails, from none, which makes another line.
func TestRestWordsWithoutRests(t *testing.T) {
	for _, word := range restWords() {
		checkLine(t, word, "what")
		for _, rest := range []string{" ", "  ", "   ", " x", " -", " \t", " " + word, " 1 1 1 1 1 1"} {
			checkLine(t, word+rest, "no")
		}
	}
}

// otherWords has what looks like a word but is none.
func otherWords(word string) []string {
	return []string{
		word[:len(word)-1], word[1:], word + "s", word + "0", word + word, strings.ToUpper(word), strings.ToUpper(word[:1]) + word[1:],
		" " + word, "\t" + word, word + "\t", word + "\r", word + "\x00", "\xff" + word, word + "\xc3", word + ",", "-" + word, word + "\v", "\ufeff" + word,
	}
}

func TestOtherWords(t *testing.T) {
	for _, word := range append(plainWords(), restWords()...) {
		for _, other := range otherWords(word) {
			for _, rest := range []string{"", " ", " 1", " 2 1", " 1 1 1", " 1 0 0 1"} {
				checkLine(t, other+rest, "what")
			}
		}
	}
	lines := []string{"", " ", "  ", "   ", " 1", " 1 2", "1", "-", "0", "ok", "no", "what", "yes", "not", "\t", "\r", "\x00", "\xff", "\xff\xfe \xfd", "kind\t1", "kind\r", "kind,1", "kind1", "kind\u00a01", "times=2", "é", "世界 1"}
	for _, line := range lines {
		checkLine(t, line, "what")
	}
}

// ones has a rest for each word that holds a text where a number stands, at each place.
func ones(text string) []string {
	return []string{
		"kind " + text, "blow " + text, "times " + text,
		"divisor " + text + " 1 1", "divisor 1 " + text + " 1", "divisor 1 1 " + text,
	}
}

// TestNumbersOfRests has 1 and 0 in all ways in which they may stand.
func TestNumbersOfRests(t *testing.T) {
	for _, text := range []string{"0", "00", "000", "-0", "-00", "-000", "1", "01", "001", "2", "02", "002"} {
		for _, line := range ones(text) {
			checkLine(t, line, "ok")
		}
	}
	for _, text := range []string{"7", "07", "007"} {
		checkLine(t, "fraction "+text+" 3", "3 2 2")
	}
	for _, text := range []string{"0", "00", "000", "-0", "-00", "-000"} {
		checkLine(t, "cone 1 "+text+" "+text+" 1", "1,0 0,1")
	}
	for _, text := range []string{"-1", "-01", "-001"} {
		checkLine(t, "cone 1 0 "+text+" 001", "1,0 -1,1")
		checkScript(t, script("divisor "+text+" 02 -00", "show"), script("ok", "-1 2 0", "rays 3"))
		checkScript(t, script("times "+text, "show"), script("ok", "-1 -1 -1", "rays 3"))
	}
	checkScript(t, script("divisor -007 008 0", "show", "times -02", "show"), script("ok", "-7 8 0", "ok", "14 -16 0", "rays 3"))
	checkScript(t, script("kind 010", "numbers"), script("ok", "0 -10 0 10", "rays 4"))
	checkScript(t, script("times -00", "show", "degrees"), script("ok", "0 0 0", "0 0 0", "rays 3"))
}

// TestOtherNumbers has what is no number of a rest, at each place.
func TestOtherNumbers(t *testing.T) {
	texts := []string{
		"", "-", "--", "--1", "---0", "-1-", "1-", "0-", "1-1", "+", "+1", "+0", "-+1", "+-1", "0000", "0001", "1000", "9999", "-0000", "-0001", "-1000",
		"00000000000000000001", "99999999999999999999", "x", "1x", "x1", "-x", "1.", "1.0", ".1", "1,", ",1", "1,1", "1e0", "0x1", "0b1", "0o1", "1_0",
		"\t1", "1\t", "\r1", "1\r", "1\x00", "\x001", "\xff", "1\xff", "١", "１", "½", "−1", "1\u00a0", "(1)", "'1'", "nan", "inf",
		" 1", "1 ", " ", "- 1", "1 -", "  1", "1  ",
	}
	for _, text := range texts {
		for _, line := range append(ones(text), "down "+text, "fraction "+text+" 1", "fraction 2 "+text, "cone "+text+" 0 0 1", "cone 1 0 0 "+text, "cone 1 "+text+" 0 1") {
			checkLine(t, line, "no")
		}
	}
}

// TestSpacesOfRests has one space too many at each place.
func TestSpacesOfRests(t *testing.T) {
	for _, line := range []string{"kind 1", "blow 1", "times 1", "divisor 1 2 3", "fraction 7 3", "cone 1 0 0 1"} {
		parts := strings.Split(line, " ")
		for i := 1; i < len(parts); i++ {
			ahead, behind := strings.Join(parts[:i], " "), strings.Join(parts[i:], " ")
			checkLine(t, ahead+"  "+behind, "no")
			if i > 1 {
				checkLine(t, ahead+"\t"+behind, "no")
			}
		}
		checkLine(t, line+" ", "no")
		checkLine(t, line+"\r", "no")
		checkLine(t, " "+line, "what")
	}
}

// TestNumberOfNumbers has rests with any number of numbers, of which only one is as told.
func TestNumberOfNumbers(t *testing.T) {
	dues := map[string]int{"kind": 1, "blow": 1, "times": 1, "divisor": 3, "fraction": 2, "cone": 4}
	rests := map[string][]string{"fraction": {"7", "3", "1", "2", "1"}, "cone": {"1", "0", "0", "1", "1", "0", "1", "3"}}
	for word, due := range dues {
		for size := 1; size <= 8; size++ {
			list := strings.Fields(strings.Repeat("1 ", size))
			for i, text := range rests[word] {
				if i < size {
					list[i] = text
				}
			}
			line := word + " " + strings.Join(list, " ")
			if size != due {
				checkLine(t, line, "no")
			} else if got := newDesk().answer(line); got == "no" {
				t.Errorf("the line %q fails by the tests", line)
			} else {
				checkLine(t, line, got)
			}
		}
	}
	for rays := 3; rays <= 20; rays++ {
		for size := rays - 2; size <= rays+2; size++ {
			text := script(strings.Split(strings.Repeat("blow 0,", rays-3)+"divisor"+strings.Repeat(" 2", size)+",show", ",")...)
			due := strings.Repeat("ok\n", rays-3) + script("ok", numbersText(filled(rays, 2)))
			if size != rays {
				due = strings.Repeat("ok\n", rays-3) + script("no", numbersText(filled(rays, 1)))
			}
			checkScript(t, text, due+"rays "+numbersText([]int{rays})+"\n")
		}
	}
}
