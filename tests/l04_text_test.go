package tests

import (
	"fmt"
	"regexp"
	"slices"
	"strconv"
	"strings"
	"testing"

	"loop.example/g00052/impl"
)

func TestRulesAndTheirText(t *testing.T) {
	for _, c := range []struct {
		text  string
		rules []impl.Rule
	}{
		{"", nil},
		{"1 1-1 0 0 -\n", []impl.Rule{{Prefix: "1", Least: 1, Most: 1}}},
		{"1 1-1 0 0 0\n", []impl.Rule{{Prefix: "1", Least: 1, Most: 1, Add: "0"}}},
		{"12 4-8 5 1 00\n", []impl.Rule{plainRule}},
		{"*# 10-20 1000 10 ##########\n", []impl.Rule{{Prefix: "*#", Least: 10, Most: 20, Route: 1000, Strip: 10, Add: "##########"}}},
		{"001 3-3 10 3 -\n1 1-2 20 0 00\n", []impl.Rule{
			{Prefix: "001", Least: 3, Most: 3, Route: 10, Strip: 3}, {Prefix: "1", Least: 1, Most: 2, Route: 20, Add: "00"}}},
		{"2 1-1 3 0 -\n1 1-1 3 0 -\n", []impl.Rule{{Prefix: "2", Least: 1, Most: 1, Route: 3}, {Prefix: "1", Least: 1, Most: 1, Route: 3}}},
		{ones(20) + " 20-20 7 20 " + ones(20) + "\n", []impl.Rule{{Prefix: ones(20), Least: 20, Most: 20, Route: 7, Strip: 20, Add: ones(20)}}},
	} {
		if got := impl.ShowRules(c.rules); got != c.text {
			t.Errorf("show %v: %q, want %q", c.rules, got, c.text)
		}
		if got, bad := impl.ReadRules(c.text); bad != 0 || !slices.Equal(got, c.rules) {
			t.Errorf("read %q: %v %d", c.text, got, bad)
		}
	}
}

func TestRulesComeBack(t *testing.T) {
	back := func(rules []impl.Rule) {
		t.Helper()
		text := impl.ShowRules(rules)
		if strings.Count(text, "\n") != len(rules) {
			t.Fatalf("not a line each: %q", text)
		}
		if got, bad := impl.ReadRules(text); bad != 0 || !slices.Equal(got, rules) {
			t.Fatalf("%v as %q: %v %d", rules, text, got, bad)
		}
	}
	for _, rules := range rightRules() {
		back(rules)
	}
	d := drawn(46)
	for range 2000 {
		back(drawRules(&d, "0123456789*#", d.below(60)))
	}
}

func TestShowRulesRefuses(t *testing.T) {
	for why, rules := range wrongRules() {
		if got := impl.ShowRules(rules); got != "" {
			t.Errorf("%s: %q", why, got)
		}
	}
}

// wrongLines are none; each is so behind any others.
func wrongLines() []string {
	return []string{
		// The words and what is between them.
		"", " ", "-", "1", "1 1-1", "1 1-1 5", "1 1-1 5 0", "1 1-1 5 0 - -", "1 1-1 5 0 - 0", "1 1 1 5 0 -", "1 1-1 5 0 0 0",
		"1 1-1 5 0 ", "1 1-1 5  -", "1 1-1  0 -", "1  5 0 -", " 1-1 5 0 -",
		" 1 1-1 5 0 -", "1 1-1 5 0 - ", "1  1-1 5 0 -", "1 1-1  5 0 -", "1 1-1 5  0 -", "1 1-1 5 0  -",
		"1\t1-1 5 0 -", "1 1-1 5 0\t-", "1 1-1 5 0 -\t", "1 1-1 5 0 -\r", "\r1 1-1 5 0 -", "1 1-1 5 0 -\x00", "1 1-1 5 0 -\v", "1\u00a01-1 5 0 -",
		// Least and Most are one word.
		"1 1 5 0 -", "1 11 5 0 -", "1 1 - 1 5 0 -", "1 1- 1 5 0 -", "1 1 -1 5 0 -", "1 - 5 0 -", "1 1- 5 0 -", "1 -1 5 0 -",
		"1 1--1 5 0 -", "1 -1-1 5 0 -", "1 1-1- 5 0 -", "1 1-1-1 5 0 -", "1 --1 5 0 -", "1 1_1 5 0 -", "1 1\u20131 5 0 -",
		// Numbers in another form.
		"1 01-1 5 0 -", "1 1-01 5 0 -", "1 1-1 05 0 -", "1 1-1 00 0 -", "1 1-1 5 00 -", "1 1-1 5 000000000000000000000 -",
		"1 +1-1 5 0 -", "1 1-+1 5 0 -", "1 1-1 +5 0 -", "1 1-1 5 +0 -", "1 1-1 5 -0 -", "1 1-1 -0 0 -", "1 1-1 - 0 -", "1 1-1 5 - -", "1 1-1 + 0 -",
		"1 1-1 0x5 0 -", "1 1-1 5.0 0 -", "1 1-1 5e0 0 -", "1 1-1 1_0 0 -", "1 1-1 1,0 0 -", "1 1-1 ٣ 0 -", "1 1-1 \uff15 0 -", "1 1-1 5\xff 0 -", "1 a-1 5 0 -", "1 1-a 5 0 -", "1 1-1 a 0 -", "1 1-1 5 a -", "1 1-* 5 0 -", "1 1-1 # 0 -",
		// Numbers that are too great, also where few bits of them would not be.
		"1 1-1 1001 0 -", "1 1-21 5 0 -", "1 21-21 5 0 -", "1 1-1 5 2 -", "1 1-1 10000 0 -", "1 1-1 4294967296 0 -", "1 1-1 4294967301 0 -", "1 1-1 9223372036854775807 0 -", "1 1-1 9223372036854775808 0 -",
		"1 1-1 18446744073709551616 0 -", "1 1-1 18446744073709551621 0 -", "1 1-1 5 18446744073709551616 -", "1 18446744073709551617-1 5 0 -", "1 1-18446744073709551617 5 0 -", "1 1-1 " + ones(400) + " 0 -",
		// Numbers that are too small.
		"1 0-1 5 0 -", "1 0-0 5 0 -", "1 2-1 5 0 -", "1 1-0 5 0 -", "12 1-2 5 0 -", "1 1-1 -1 0 -", "1 1-1 5 -1 -", "1 1-1 -9223372036854775808 0 -", "1 1-1 5 -18446744073709551616 -",
		// Prefix and Add.
		"- 1-1 5 0 -", "a 1-1 5 0 -", "1a 2-2 5 0 -", "é 2-2 5 0 -", "٣ 2-2 5 0 -", "\xff 1-1 5 0 -", ones(21) + " 20-20 5 0 -", ones(21) + " 21-21 5 0 -",
		"1 1-1 5 0 a", "1 1-1 5 0 --", "1 1-1 5 0 -1", "1 1-1 5 0 1-", "1 1-1 5 0 +1", "1 1-1 5 0 é", "1 1-1 5 0 ٣", "1 1-1 5 0 \xff", "1 1-1 5 0 " + ones(20), "1 1-1 5 1 " + ones(21),
		strings.Repeat(" ", 5000), strings.Repeat("1", 5000),
	}
}

// The number of lines ahead and what stands behind play no part.
func TestReadRulesRefuses(t *testing.T) {
	ahead := "2 1-1 5 0 -\n3 2-3 0 1 77\n"
	for _, line := range wrongLines() {
		for _, c := range []struct {
			text string
			bad  int
		}{
			{line + "\n", 1},
			{line + "\n" + ahead, 1},
			{ahead + line + "\n", 3},
			{ahead + line + "\n4 1-1 5 0 -\n", 3},
			{ahead + line + "\n" + line + "\nx\n", 3},
			{ahead + line + "\n2 1-1 5 0 -", 3},
		} {
			if got, bad := impl.ReadRules(c.text); bad != c.bad || len(got) != 0 {
				t.Errorf("%q: %v %d, want %d", c.text, got, bad, c.bad)
			}
		}
	}
}

// checkBadLines holds each text to the number of its line that is told.
func checkBadLines(t *testing.T, bads map[string]int) {
	t.Helper()
	for text, want := range bads {
		if got, bad := impl.ReadRules(text); bad != want || len(got) != 0 {
			t.Errorf("%q: %v %d, want %d", text, got, bad, want)
		}
	}
}

func TestReadRulesOfWhatIsBehindTheLastLineEnd(t *testing.T) {
	checkBadLines(t, map[string]int{
		"1 1-1 5 0 -":                  1,
		"1 1-1 5 0 -\n2 1-1 5 0 -":     2,
		"1 1-1 5 0 -\n ":               2,
		"1 1-1 5 0 -\nx":               2,
		"1 1-1 5 0 -\n\n":              2,
		"1 1-1 5 0 -\n\n2 1-1 5 0 -\n": 2,
		"\n":                           1,
		"\n\n":                         1,
		"\n1 1-1 5 0 -\n":              1,
		"x":                            1,
		"x\n1 1-1 5 0 -":               1,
		"1 1-1 5 0 -\nx\n2 1-1 5 0 -":  2,
		"1 1-1 5 0 -\r\n":              1,
		"1 1-1 5 0 -\n2 1-1 5 0 -\n3 1-1 5 0 -\r":  3,
		"1 1-1 5 0 -\n2 1-1 5 0 -\n3 1-1 5 0 -\n-": 4,
	})
}

// A line may be right by itself and not behind those ahead.
func TestReadRulesOfWhatMayNotStandBehind(t *testing.T) {
	checkBadLines(t, map[string]int{
		"1 1-1 5 0 -\n1 1-1 5 0 -\n":                           2,
		"1 1-1 5 0 -\n1 2-3 7 1 99\n":                          2,
		"1 1-1 5 0 -\n2 1-1 5 0 -\n1 2-3 7 1 99\nx\n":          3,
		"1 1-1 5 0 -\n1 1-1 5 0 -\n1 1-1 5 0 -\n":              2,
		"1 1-1 5 0 -\n2 1-1 5 0 -\n3 1-1 5 0 -\n2 2-2 5 0 -":   4,
		"1 1-1 5 0 -\n2 1-1 5 0 -\n2 1-1 5 0 -\n1 1-1 5 0 -\n": 3,
	})
}

func TestReadRulesOfMaxRules(t *testing.T) {
	text := impl.ShowRules(manyRules(impl.MaxRules))
	if got, bad := impl.ReadRules(text); bad != 0 || !slices.Equal(got, manyRules(impl.MaxRules)) {
		t.Error(len(got), bad)
	}
	for _, behind := range []string{"1 1-1 5 0 -\n", "1 1-1 5 0 -", "x\n", "\n", "100 3-3 5 0 -\n", strings.Repeat("1 1-1 5 0 -\n", 5000)} {
		if got, bad := impl.ReadRules(text + behind); bad != impl.MaxRules+1 || len(got) != 0 {
			t.Errorf("%.20q: %d %d", behind, len(got), bad)
		}
	}
	lines := strings.SplitAfter(text, "\n")
	for i := range impl.MaxRules {
		wrong := slices.Clone(lines)
		wrong[i] = "x\n"
		if got, bad := impl.ReadRules(strings.Join(wrong, "")); bad != i+1 || len(got) != 0 {
			t.Error(i, len(got), bad)
		}
	}
}

var lineForm = regexp.MustCompile(`^([0-9*#]+) (0|[1-9][0-9]*)-(0|[1-9][0-9]*) (0|[1-9][0-9]*) (0|[1-9][0-9]*) (-|[0-9*#]+)$`)

// readByForm tells a second time what ReadRules answers.
func readByForm(text string) ([]impl.Rule, int) {
	lines := strings.Split(text, "\n")
	var rules []impl.Rule
	for i, line := range lines[:len(lines)-1] {
		words := lineForm.FindStringSubmatch(line)
		if words == nil {
			return nil, i + 1
		}
		var numbers [4]int
		for j := range numbers {
			// One that is too great for an int is MaxInt here, and so no rule's.
			numbers[j], _ = strconv.Atoi(words[2+j])
		}
		rules = append(rules, impl.Rule{
			Prefix: words[1], Least: numbers[0], Most: numbers[1], Route: numbers[2], Strip: numbers[3], Add: strings.Trim(words[6], "-")})
		if !fineByForm(rules) {
			return nil, i + 1
		}
	}
	if lines[len(lines)-1] != "" {
		return nil, len(lines)
	}
	return rules, 0
}

// Right texts, and the same with a few bytes put in, taken out or changed.
func TestReadRulesOfDrawnTexts(t *testing.T) {
	d := drawn(47)
	const bytes = "0123456789*#--  \n\n+x"
	count := map[string]int{}
	for range 30000 {
		text := []byte(impl.ShowRules(drawRules(&d, "012*", 1+d.below(5))))
		for range d.below(3) {
			at := d.below(len(text) + 1)
			end := min(len(text), at+d.below(2))
			put := ""
			if d.below(3) > 0 {
				put = string(bytes[d.below(len(bytes))])
			}
			text = slices.Replace(text, at, end, []byte(put)...)
		}
		got, bad := impl.ReadRules(string(text))
		want, wantBad := readByForm(string(text))
		if bad != wantBad || !slices.Equal(got, want) {
			t.Fatalf("%q: %v %d, want %v %d", text, got, bad, want, wantBad)
		}
		if bad == 0 && impl.ShowRules(got) != string(text) {
			t.Fatalf("%q comes back as %q", text, impl.ShowRules(got))
		}
		count[fmt.Sprint("line ", min(bad, 3))]++
	}
	for line := range 4 {
		if count[fmt.Sprint("line ", line)] < 300 {
			t.Error("hardly told", line, count)
		}
	}
}
