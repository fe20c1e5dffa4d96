package tests

import (
	"fmt"
	"strings"
	"testing"

	"loop.example/toricfans/impl"
)

// step is a line and what it prints.
type step struct{ line, due string }

// checkSteps runs lines as one script, and holds what each of them prints against what it is told to print.
func checkSteps(t *testing.T, rays int, steps ...step) {
	t.Helper()
	text, due := "", ""
	for _, s := range steps {
		text += s.line + "\n"
		due += s.due + "\n"
	}
	checkScript(t, text, due+fmt.Sprintf("rays %d\n", rays))
}

// TestFansOfScripts has the divisor 1 everywhere behind each line that changes the fan, with one number for each ray.
func TestFansOfScripts(t *testing.T) {
	checkSteps(t, 4, step{"divisor 5 6 7", "ok"}, step{"kind 0", "ok"}, step{"rays", "1,0 0,1 -1,0 0,-1"}, step{"show", "1 1 1 1"}, step{"numbers", "0 0 0 0"})
	checkSteps(t, 4, step{"kind 2", "ok"}, step{"divisor 5 6 7 8", "ok"}, step{"kind 100", "ok"}, step{"rays", "1,0 0,1 -1,100 0,-1"}, step{"show", "1 1 1 1"})
	checkSteps(t, 4, step{"divisor 5 6 7", "ok"}, step{"blow 0", "ok"}, step{"rays", "1,0 1,1 0,1 -1,-1"}, step{"show", "1 1 1 1"})
	checkSteps(t, 4, step{"blow 1", "ok"}, step{"rays", "1,0 0,1 -1,0 -1,-1"}, step{"degrees", "3 2 1 2"})
	checkSteps(t, 4, step{"blow 2", "ok"}, step{"rays", "1,0 0,1 -1,-1 0,-1"}, step{"show", "1 1 1 1"})
	checkSteps(t, 4, step{"blow 3", "no"}, step{"blow 2", "ok"}, step{"down 0", "no"}, step{"down 4", "no"}, step{"down -1", "no"}, step{"show", "1 1 1 1"})
	checkSteps(t, 3, step{"blow 2", "ok"}, step{"divisor 1 2 3 4", "ok"}, step{"down 3", "ok"}, step{"rays", "1,0 0,1 -1,-1"}, step{"show", "1 1 1"})
	checkSteps(t, 3, step{"kind 1", "ok"}, step{"divisor 1 2 3 4", "ok"}, step{"down 1", "ok"}, step{"rays", "1,0 -1,1 0,-1"}, step{"show", "1 1 1"}, step{"down 1", "no"})
	checkSteps(t, 4, step{"blow 0", "ok"}, step{"blow 0", "ok"}, step{"divisor 1 2 3 4 5", "ok"}, step{"down 0", "ok"}, step{"rays", "2,1 1,1 0,1 -1,-1"}, step{"show", "1 1 1 1"})
	checkSteps(t, 3, step{"blow 0", "ok"}, step{"divisor 9 9 9 9", "ok"}, step{"least", "ok"}, step{"rays", "1,0 0,1 -1,-1"}, step{"show", "1 1 1"})
	checkSteps(t, 3, step{"divisor 5 6 7", "ok"}, step{"least", "ok"}, step{"show", "1 1 1"})
	checkSteps(t, 3, step{"kind 1", "ok"}, step{"least", "ok"}, step{"rays", "1,0 -1,1 0,-1"}, step{"least", "ok"}, step{"least", "ok"}, step{"show", "1 1 1"})
	checkSteps(t, 4, step{"kind 2", "ok"}, step{"divisor 2 2 2 2", "ok"}, step{"least", "ok"}, step{"rays", "1,0 0,1 -1,2 0,-1"}, step{"show", "1 1 1 1"})
}

// TestRaysBeyondTheLimit blows up between the two greatest rays, until the next one would be no vector.
func TestRaysBeyondTheLimit(t *testing.T) {
	rays := "1,0 0,1 -1,101 -3,302 -8,805 -5,503 -2,201 -1,100 0,-1"
	checkSteps(t, 9,
		step{"kind 100", "ok"}, step{"blow 1", "ok"}, step{"blow 2", "ok"}, step{"blow 2", "ok"}, step{"blow 3", "ok"}, step{"blow 3", "ok"}, step{"rays", rays},
		step{"divisor 1 2 3 4 5 6 7 8 9", "ok"}, step{"blow 4", "no"}, step{"blow 3", "no"}, step{"rays", rays}, step{"show", "1 2 3 4 5 6 7 8 9"},
	)
}

// TestFansUpToTheLimit blows up to 20 rays, at the first cone and at the last one, and then not once more.
func TestFansUpToTheLimit(t *testing.T) {
	for _, first := range []bool{true, false} {
		var steps []step
		for rays := 3; rays < 20; rays++ {
			line := "blow 0"
			if !first {
				line = fmt.Sprintf("blow %d", rays-1)
			}
			steps = append(steps, step{line, "ok"})
		}
		steps = append(steps, step{"blow 0", "no"}, step{"blow 19", "no"}, step{"show", numbersText(filled(20, 1))}, step{"divisor" + strings.Repeat(" 100", 20), "ok"})
		steps = append(steps, step{"blow 1", "no"}, step{"show", numbersText(filled(20, 100))})
		checkSteps(t, 20, steps...)
		if first {
			checkSteps(t, 4, append(steps, step{"least", "ok"}, step{"rays", "2,1 1,1 0,1 -1,-1"}, step{"show", "1 1 1 1"})...)
		}
	}
}

// TestDivisorsOfScripts has divisors at the limits and beyond them.
func TestDivisorsOfScripts(t *testing.T) {
	checkSteps(t, 3, step{"divisor 50 -50 1", "ok"}, step{"times 2", "ok"}, step{"show", "100 -100 2"}, step{"times 2", "no"}, step{"show", "100 -100 2"}, step{"times -1", "ok"}, step{"show", "-100 100 -2"})
	checkSteps(t, 3, step{"times 100", "ok"}, step{"times 1", "ok"}, step{"times 2", "no"}, step{"times 101", "no"}, step{"times -1", "ok"}, step{"times -2", "no"}, step{"show", "-100 -100 -100"})
	checkSteps(t, 3, step{"divisor 0 0 0", "ok"}, step{"times 100", "ok"}, step{"times 101", "no"}, step{"times -101", "no"}, step{"times -100", "ok"}, step{"show", "0 0 0"})
	checkSteps(t, 3, step{"divisor 1 2 3", "ok"}, step{"divisor 1 2", "no"}, step{"divisor 1 2 3 4", "no"}, step{"divisor 4 5 101", "no"}, step{"divisor -101 5 6", "no"}, step{"show", "1 2 3"})
	checkSteps(t, 3, step{"divisor 100 100 100", "ok"}, step{"show", "100 100 100"}, step{"divisor -100 -100 -100", "ok"}, step{"show", "-100 -100 -100"})
	checkSteps(t, 3, step{"times 3", "ok"}, step{"times 0", "ok"}, step{"show", "0 0 0"}, step{"times 7", "ok"}, step{"show", "0 0 0"})
}

// TestNumbersOfScripts has what all words tell of some divisors.
func TestNumbersOfScripts(t *testing.T) {
	checkSteps(t, 3,
		step{"divisor 0 0 0", "ok"}, step{"nef", "yes"}, step{"ample", "not"}, step{"square", "0"}, step{"euler", "1"}, step{"genus", "1"},
		step{"sections", "1"}, step{"inner", "0"}, step{"corners", "0,0 0,0 0,0"}, step{"degrees", "0 0 0"},
	)
	checkSteps(t, 3,
		step{"divisor -1 -1 -1", "ok"}, step{"nef", "not"}, step{"ample", "not"}, step{"square", "9"}, step{"euler", "1"}, step{"genus", "10"},
		step{"sections", "0"}, step{"inner", "0"}, step{"corners", "no"}, step{"degrees", "-3 -3 -3"},
	)
	checkSteps(t, 4,
		step{"kind 0", "ok"}, step{"divisor 0 1 2 3", "ok"}, step{"nef", "yes"}, step{"ample", "yes"}, step{"square", "16"}, step{"euler", "15"}, step{"genus", "3"},
		step{"sections", "15"}, step{"inner", "3"}, step{"corners", "0,-1 2,-1 2,3 0,3"}, step{"degrees", "4 2 4 2"},
	)
	checkSteps(t, 4,
		step{"kind 2", "ok"}, step{"nef", "yes"}, step{"ample", "not"}, step{"square", "8"}, step{"euler", "9"}, step{"genus", "1"},
		step{"sections", "9"}, step{"inner", "1"}, step{"corners", "-1,-1 -1,-1 3,1 -1,1"}, step{"degrees", "2 0 2 4"},
	)
}

// TestWordsThatFail has divisors for which the sections or the corners are beyond the limits.
func TestWordsThatFail(t *testing.T) {
	narrow := []step{{"kind 100", "ok"}, {"divisor 0 0 0 1", "ok"}}
	checkSteps(t, 4, append(narrow, step{"nef", "yes"}, step{"sections", "102"}, step{"inner", "0"}, step{"corners", "0,0 0,0 100,1 0,1"})...)
	checkSteps(t, 4, append(narrow, step{"times 9", "ok"}, step{"sections", "4510"}, step{"inner", "3592"}, step{"corners", "0,0 0,0 900,9 0,9"})...)
	checkSteps(t, 4, append(narrow, step{"times 10", "ok"}, step{"sections", "no"}, step{"inner", "no"}, step{"corners", "0,0 0,0 1000,10 0,10"}, step{"square", "10000"})...)
	checkSteps(t, 4, append(narrow, step{"times 11", "ok"}, step{"sections", "no"}, step{"inner", "no"}, step{"corners", "no"}, step{"nef", "yes"}, step{"show", "0 0 0 11"}, step{"degrees", "11 0 11 1100"})...)
	checkSteps(t, 4, step{"kind 100", "ok"}, step{"divisor 100 100 100 100", "ok"}, step{"sections", "no"}, step{"inner", "no"}, step{"corners", "no"}, step{"nef", "not"}, step{"euler", "40401"})
	checkSteps(t, 3, step{"divisor 100 100 100", "ok"}, step{"sections", "no"}, step{"divisor 100 100 -100", "ok"}, step{"sections", "no"}, step{"divisor 99 100 -100", "ok"}, step{"sections", "5050"}, step{"inner", "4753"})
}

// changes has lines that lead to fans and divisors of each kind, some of which fail on the way.
func changes() [][]string {
	return [][]string{
		{}, {"zzz"}, {"blow 9"}, {"kind 0"}, {"kind 1"}, {"kind 7"}, {"kind 100"}, {"blow 0"}, {"blow 1", "blow 1"}, {"blow 2", "blow 3", "blow 0"}, {"kind 3", "blow 1", "down 1"},
		{"blow 0", "blow 2", "blow 4"}, {"blow 0", "blow 2", "blow 4", "least"}, {"divisor 1 2 3"}, {"divisor 0 0 -1"}, {"divisor 100 -100 3", "times -1"}, {"times 4"}, {"times 30"}, {"times 50"},
		{"kind 2", "divisor 4 3 2 1"}, {"kind 2", "divisor 0 -3 0 9", "times 2"}, {"kind 5", "times 9"}, {"kind 1", "down 1", "divisor 5 0 0"}, {"kind 1", "down 1", "divisor 5 0 0", "times 99"},
		{"kind 60", "divisor 0 0 1 16"}, {"kind 60", "divisor 0 0 1 17"}, {"kind 0", "divisor 49 49 50 50"}, {"kind 0", "divisor 50 50 50 50"}, {"kind 0", "divisor -3 0 2 5"},
		{"blow 0", "blow 0", "blow 0", "divisor 3 1 -4 1 5 9"}, {"divisor 2 2", "times x", "kind", "least ", "fraction 3 2"},
	}
}

// TestWordsBehindChanges asks each word behind each of some lines, and the others behind it: what only tells changes nothing.
func TestWordsBehindChanges(t *testing.T) {
	all := "rays numbers show degrees nef ample square euler genus sections inner corners"
	times := map[string]int{}
	for _, lines := range changes() {
		for _, word := range append(plainWords(), "fraction 7 3", "cone 1 0 1 3") {
			text := script(append(append([]string{}, lines...), word)...)
			checkScript(t, text, outputOf(text))
			text += strings.ReplaceAll(all, " ", "\n") + "\n" + word + "\n"
			checkScript(t, text, outputOf(text))
			for i, line := range linesOf(outputOf(text)) {
				if i >= len(lines) && (line == "no" || line == "yes" || line == "not") {
					times[line]++
				}
			}
		}
	}
	for _, answer := range []string{"no", "yes", "not"} {
		atLeast(t, times[answer], 100)
	}
}

// TestCommandsFollowTheirFunctions holds what lines print against the functions of the earlier chapters, for many kinds and cones.
func TestCommandsFollowTheirFunctions(t *testing.T) {
	for k := -2; k <= 102; k++ {
		line := fmt.Sprintf("kind %d", k)
		if f, ok := impl.SurfaceKind(k); ok {
			numbers, _ := impl.FanNumbers(f)
			checkSteps(t, 4, step{line, "ok"}, step{"rays", vectorsText(f)}, step{"numbers", numbersText(numbers)}, step{"show", "1 1 1 1"})
		} else {
			checkSteps(t, 3, step{line, "no"}, step{"rays", "1,0 0,1 -1,-1"})
		}
	}
	for _, c := range conesAndNone() {
		if max(c.U.X, c.U.Y, c.V.X, c.V.Y) > 999 || min(c.U.X, c.U.Y, c.V.X, c.V.Y) < -999 {
			continue
		}
		due := "no"
		if list, ok := impl.ConeBase(c); ok {
			due = vectorsText(list)
		}
		got := impl.Execute(fmt.Sprintf("cone %d %d %d %d\n", c.U.X, c.U.Y, c.V.X, c.V.Y))
		if got != due+"\nrays 3\n" {
			t.Errorf("the cone %v is printed as %q, not %q", c, got, due)
		}
	}
}
