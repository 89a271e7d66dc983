package tests

import (
	"fmt"
	"strings"
	"testing"

	"loop.example/g00052/impl"
)

// besideLines fill each part, so that what a line does beside its own part is seen.
var besideLines = [partCount]string{
	panelPart:    "join 30 31; hold 30",
	rulesPart:    "rule 9 1-3 4 1 -",
	fabricPart:   "path 15 15",
	deskPart:     "call 9 1 0 0; call 8 4 0 0",
	settingsPart: "set zz on",
}

// A lineCase is a line behind others, what it says, and how its part stands
// behind it; asAhead: as ahead of it. No other part is changed by it.
type lineCase struct{ ahead, line, says, stands string }

const asAhead = "as ahead"

// refusedLines are cases of lines that say no.
func refusedLines(ahead string, lines ...string) []lineCase {
	var cases []lineCase
	for _, line := range lines {
		cases = append(cases, lineCase{ahead, line, "no", asAhead})
	}
	return cases
}

func checkLineCases(t *testing.T, part int, cases []lineCase) {
	t.Helper()
	for _, c := range cases {
		checkLineCase(t, part, linesOf(c.ahead), c)
		var beside []string
		for other, lines := range besideLines {
			if other != part {
				beside = append(beside, lines)
			}
		}
		checkLineCase(t, part, linesOf(strings.Join(beside, "; "))+linesOf(c.ahead), c)
	}
}

func checkLineCase(t *testing.T, part int, ahead string, c lineCase) {
	t.Helper()
	if strings.Contains(impl.Console(ahead), "no\n") {
		t.Errorf("%q is not what it is meant for: %q", ahead, impl.Console(ahead))
	}
	want := standingBehind(ahead).parts()
	if c.stands != asAhead {
		want[part] = c.stands
	}
	for _, end := range []string{"", "\n", "\n\n", "\n# end\n", "\n\n# end"} {
		text := ahead + c.line + end
		if got := impl.Console(text); got != impl.Console(ahead)+c.says+"\n" {
			t.Errorf("%q behind %q: %q, not %q", c.line, ahead, strings.TrimPrefix(got, impl.Console(ahead)), c.says)
		}
		s := standingBehind(text)
		if s.parts() != want || !s.isRight() {
			t.Errorf("%q behind %q: %s, not %q", c.line, ahead, s, want)
		}
	}
	// What was refused plays no part in what stands behind it.
	if c.stands == asAhead {
		behind := "join 20 21\ndial 9\npath 9 9\nset yy 1\ncall 77 1 0 50\nget yy\n"
		if impl.Console(ahead+c.line+"\n"+behind) != impl.Console(ahead+c.line+"\n")+strings.TrimPrefix(impl.Console(ahead+behind), impl.Console(ahead)) {
			t.Errorf("%q behind %q: other lines say something else behind it", c.line, ahead)
		}
	}
}

// P20: join, with each of DoPanel's codes.
func TestJoinLines(t *testing.T) {
	eight := "join 0 1; join 0 2; join 0 3; join 0 4; join 0 5; join 0 6; join 0 7"
	checkLineCases(t, panelPart, []lineCase{
		{"", "join 1 2", "ok", "bc"},
		{"", "join 2 1", "ok", "cb"},
		{"", "join 0 39", "ok", "aн"},
		{"", "join 39 0", "ok", "нa"},
		{"join 1 2", "join 1 3", "ok", "bcd"},
		{"join 1 2", "join 3 1", "ok", "bcd"},
		{"join 1 2", "join 5 4", "ok", "bc fe"},
		{"join 1 2; join 3 4", "join 2 3", "ok", "bcde"},
		{"join 1 2; join 3 4", "join 4 1", "ok", "debc"},
		{"join 1 2; park 1", "join 5 2", "ok", "cf"},
		{"join 1 2; park 1", "join 1 5", "ok", "*c bf"},
		{"join 1 2; hold 1", "join 3 1", "ok", "Bcd"},
		{"join 0 1; join 0 2; join 0 3; join 0 4; join 0 5; join 0 6", "join 7 0", "ok", "abcdefgh"},
		{"join 0 1; join 0 2; join 0 3; join 10 11; join 10 12; join 10 13", "join 10 0", "ok", "klmnabcd"},
	})
	checkLineCases(t, panelPart, refusedLines("", "join 1 1", "join 0 0", "join 40 1", "join 1 40", "join 41 42", "join 40 40", "join 9999999 0", "join 0 9999999"))
	checkLineCases(t, panelPart, refusedLines("join 1 2; join 1 3", "join 1 2", "join 2 1", "join 3 2", "join 2 2", "join 2 40"))
	checkLineCases(t, panelPart, refusedLines(eight, "join 8 0", "join 0 8", "join 7 0", "join 39 7"))
	checkLineCases(t, panelPart, refusedLines(eight+"; join 10 11", "join 10 0", "join 0 10", "join 11 7"))
	checkLineCases(t, panelPart, refusedLines("join 0 1; join 0 2; join 0 3; join 0 4; join 10 11; join 10 12; join 10 13", "join 0 10", "join 10 0"))
}

// P20: drop, hold, take, park and pick, with each of DoPanel's codes. (PanelFull of
// pick can't be told: who parks a call leaves it.)
func TestPanelLines(t *testing.T) {
	checkLineCases(t, panelPart, []lineCase{
		{"join 1 2", "drop 1", "ok", ""},
		{"join 1 2", "drop 2", "ok", ""},
		{"join 1 2; join 1 3", "drop 2", "ok", "bd"},
		{"join 1 2; join 1 3; park 1", "drop 2", "ok", "*d"},
		{"join 1 2; park 1", "drop 2", "ok", ""},
		{"join 1 2; join 3 4", "drop 1", "ok", "de"},
		{"join 1 2", "hold 2", "ok", "bC"},
		{"join 1 2; hold 2", "hold 1", "ok", "BC"},
		{"join 1 2; park 1", "hold 2", "ok", "*C"},
		{"join 1 2; hold 2", "take 2", "ok", "bc"},
		{"join 1 2; hold 1; hold 2", "take 1", "ok", "bC"},
		{"join 1 2", "park 1", "ok", "*c"},
		{"join 1 2; join 1 3", "park 3", "ok", "*bc"},
		{"join 1 2; park 1", "park 2", "ok", ""},
		{"join 1 2; join 1 3; park 1", "park 2", "ok", "*d"},
		{"join 1 2; park 1", "pick 5", "ok", "cf"},
		{"join 1 2; park 1", "pick 1", "ok", "cb"},
		{"join 1 2; join 3 4; park 3; park 1", "pick 0", "ok", "ca *e"},
		{"join 0 1; join 0 2; join 0 3; join 0 4; join 0 5; join 0 6; join 0 7; park 0", "pick 39", "ok", "bcdefghн"},
	})
	free := []string{"drop 5", "hold 5", "take 5", "park 5", "drop 40", "hold 40", "take 40", "park 40", "pick 40", "pick 9999999", "drop 9999999"}
	checkLineCases(t, panelPart, refusedLines("", append(free, "drop 0", "hold 0", "take 0", "park 0", "pick 0", "pick 39")...))
	checkLineCases(t, panelPart, refusedLines("join 1 2", append(free, "take 1", "take 2", "pick 1", "pick 3")...))
	checkLineCases(t, panelPart, refusedLines("join 1 2; hold 1", append(free, "hold 1", "take 2", "pick 2")...))
	checkLineCases(t, panelPart, refusedLines("join 1 2; join 1 3; park 1", append(free, "drop 1", "hold 1", "take 1", "park 1", "take 2", "pick 2", "pick 3")...))
}

// P20: hears, which tells lines that are not there from no others.
func TestHearsLines(t *testing.T) {
	checkLineCases(t, panelPart, []lineCase{
		{"", "hears 0", "none", asAhead},
		{"", "hears 39", "none", asAhead},
		{"", "hears 40", "none", asAhead},
		{"", "hears 9999999", "none", asAhead},
		{"join 1 2", "hears 1", "2", asAhead},
		{"join 1 2", "hears 2", "1", asAhead},
		{"join 1 2", "hears 3", "none", asAhead},
		{"join 0 39", "hears 39", "0", asAhead},
		{"join 9 20; join 9 3; join 9 10; join 9 2", "hears 9", "2 3 10 20", asAhead},
		{"join 9 20; join 9 3; join 9 10; join 9 2", "hears 10", "2 3 9 20", asAhead},
		{"join 1 2; hold 1", "hears 1", "none", asAhead},
		{"join 1 2; hold 1", "hears 2", "none", asAhead},
		{"join 1 2; join 1 3; hold 3", "hears 1", "2", asAhead},
		{"join 1 2; join 1 3; hold 3", "hears 3", "none", asAhead},
		{"join 1 2; join 1 3; park 1", "hears 2", "none", asAhead},
		{"join 1 2; join 1 3; park 1", "hears 1", "none", asAhead},
		{"join 1 2; join 1 3; park 1; pick 5", "hears 5", "2 3", asAhead},
		{"join 0 1; join 0 2; join 0 3; join 0 4; join 0 5; join 0 6; join 0 7", "hears 4", "0 1 2 3 5 6 7", asAhead},
	})
}

// P20: path and free, with each of the fabric's codes. (FabBlocked can't be told: 4
// Mid are as many as 4 Ports.)
func TestPathLines(t *testing.T) {
	checkLineCases(t, fabricPart, []lineCase{
		{"", "path 0 0", "ok 0", "4.4.4 0-0/0"},
		{"", "path 15 0", "ok 0", "4.4.4 15-0/0"},
		{"", "path 0 15", "ok 0", "4.4.4 0-15/0"},
		{"path 0 0", "path 1 5", "ok 0", "4.4.4 0-0/0 1-5/1"},
		{"path 0 0", "path 5 1", "ok 0", "4.4.4 0-0/0 5-1/1"},
		{"path 0 0; path 4 1; path 5 4; path 6 8", "path 7 2", "ok 0", "4.4.4 0-0/0 4-1/1 5-4/0 6-8/2 7-2/3"},
		// Switch 0 in has 0, 1 and 2, switch 2 out has 1 and 3: of those that are free 3
		// is the first one in, 0 the first one out, and inlet 7 goes on to 0.
		{"path 0 0; path 1 1; path 2 4; path 4 8; path 5 9; path 6 12; path 7 10; free 4", "path 3 11", "ok 1", "4.4.4 0-0/0 1-1/1 2-4/2 5-9/1 6-12/2 7-10/0 3-11/3"},
		{"path 0 0", "free 0", "ok", "4.4.4"},
		{"path 0 0; path 1 5; path 15 15", "free 1", "ok", "4.4.4 0-0/0 15-15/0"},
		{"path 0 0; free 0", "path 1 0", "ok 0", "4.4.4 1-0/0"},
	})
}

func TestRefusedPathLines(t *testing.T) {
	none := []string{"path 16 0", "path 0 16", "path 16 16", "path 17 3", "path 9999999 0", "path 0 9999999", "free 16", "free 17", "free 9999999"}
	checkLineCases(t, fabricPart, refusedLines("", append(none, "free 0", "free 15")...))
	checkLineCases(t, fabricPart, refusedLines("path 3 7", append(none, "path 3 7", "path 3 0", "path 0 7", "free 7", "free 2")...))
	checkLineCases(t, fabricPart, refusedLines("path 3 7; free 3", append(none, "free 3")...))
	full := ""
	for port := range 16 {
		full += fmt.Sprintf("; path %d %d", port, 5*port%16)
	}
	checkLineCases(t, fabricPart, refusedLines(full[2:], append(none, "path 0 0", "path 15 15", "path 1 2")...))
}

// P20: law and unlaw, which change nothing.
func TestLawLines(t *testing.T) {
	checkLineCases(t, panelPart, []lineCase{
		{"", "law 0", "0", asAhead},
		{"", "law 1", "0", asAhead},
		{"", "law -1", "128", asAhead},
		{"", "law 16", "0", asAhead},
		{"", "law 17", "1", asAhead},
		{"", "law -17", "129", asAhead},
		{"", "law 32767", "127", asAhead},
		{"", "law -32767", "255", asAhead},
		{"", "unlaw 0", "8", asAhead},
		{"", "unlaw 127", "32256", asAhead},
		{"", "unlaw 128", "-8", asAhead},
		{"", "unlaw 255", "-32256", asAhead},
	})
	checkLineCases(t, panelPart, refusedLines("", "law 32768", "law -32768", "law 9999999", "law -9999999", "law -0", "law --1", "law -", "law +1",
		"law 10000000", "law -10000000", "unlaw 256", "unlaw 257", "unlaw 9999999", "unlaw -1", "unlaw -0", "unlaw -8"))
}

// P20: tone and block, which change nothing.
func TestToneAndBlockLines(t *testing.T) {
	cases := []lineCase{{"", "block 0 3 2", "1/1", asAhead}, {"", "block 0 0 1", "1/1", asAhead}, {"", "block 1 0 10", "0/1", asAhead},
		{"", "block 1 20 1", "20/21", asAhead}, {"", "block 2 3 2", "9/29", asAhead}, {"", "block 1 6 3", "2/3", asAhead}, {"", "block 8 0 1", "0/1", asAhead}}
	for _, digit := range "123A456B789C*0#D" {
		for _, phase := range []int{0, 1, 100, 254, 255} {
			cases = append(cases, lineCase{"", fmt.Sprintf("tone %c %d", digit, phase), string(digit), asAhead})
		}
		cases = append(cases, refusedLines("", fmt.Sprintf("tone %c 256", digit), fmt.Sprintf("tone %c 9999999", digit), fmt.Sprintf("tone %c -1", digit))...)
	}
	checkLineCases(t, deskPart, cases)
	checkLineCases(t, deskPart, refusedLines("", "tone a 0", "tone d 0", "tone E 0", "tone - 0", "tone none 0", "tone 12 0", "tone 11 0", "tone 123A 0", "tone 0# 0", "tone * 256",
		"tone 123A456B789C*0#D 0", "tone ж 0", "tone \xff 0", "tone 1# 0", "tone # -1",
		"block 9 3 2", "block 8 21 1", "block 8 20 11", "block 1 1 0", "block 9 21 0", "block 9999999 1 1", "block 1 9999999 1", "block 1 1 9999999"))
}
