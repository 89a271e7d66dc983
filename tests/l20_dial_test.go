package tests

import (
	"fmt"
	"strings"
	"testing"

	"loop.example/g00052/impl"
)

// ruleLines are the lines that make so many rules, of three digits each.
func ruleLines(n int) string {
	var lines []string
	for i := range n {
		lines = append(lines, fmt.Sprintf("rule %d 3-3 %d 0 -", 100+i, i))
	}
	return strings.Join(lines, "; ")
}

// P20: rules that come behind the others, at the ends of what a rule may be.
func TestRuleLines(t *testing.T) {
	var cases []lineCase
	for _, rule := range []string{
		"1 1-1 0 0 -", "12 3-4 7 2 00", "* 1-1 5 0 -", "# 1-2 5 1 #", "1*#0 4-20 1000 4 1234", "0123456789*#01234567 20-20 1 20 01234567890123456789",
		"1 1-20 0 0 -", "1 1-20 0 1 9", "1 20-20 0 20 " + ones(20), "1 1-1 0 0 " + ones(19), "1 1-1 0 1 " + ones(20), ones(20) + " 20-20 1000 0 -", "1 1-1 1000 1 -",
	} {
		cases = append(cases, lineCase{"", "rule " + rule, "ok", rule})
		cases = append(cases, lineCase{"rule 99 2-3 4 1 *", "rule " + rule, "ok", "99 2-3 4 1 *; " + rule})
	}
	cases = append(cases, lineCase{"rule 12 2-2 1 0 -; rule 1 1-1 2 0 -", "rule 123 3-3 3 0 -", "ok", "12 2-2 1 0 -; 1 1-1 2 0 -; 123 3-3 3 0 -"})
	cases = append(cases, lineCase{"rule 2 1-1 1 0 -", "rule 1 1-1 1 0 -", "ok", "2 1-1 1 0 -; 1 1-1 1 0 -"})
	checkLineCases(t, rulesPart, cases)
}

// P20: rules with each of the words wrong, alone and behind others.
func TestWrongRuleLines(t *testing.T) {
	lines := []string{
		// The Prefix.
		"rule - 1-1 0 0 -", "rule a 1-1 0 0 -", "rule 1a 2-2 0 0 -", "rule +1 2-2 0 0 -", "rule -1 2-2 0 0 -", "rule ж 2-2 0 0 -", "rule " + ones(21) + " 20-20 0 0 -", "rule " + ones(21) + " 21-21 0 0 -", "rule 1. 2-2 0 0 -",
		// Least and Most.
		"rule 1 0-1 0 0 -", "rule 12 1-2 0 0 -", "rule 1 2-1 0 0 -", "rule 1 1-21 0 0 -", "rule 1 21-21 0 0 -", "rule 1 1 0 0 -", "rule 1 1- 0 0 -", "rule 1 -1 0 0 -", "rule 1 - 0 0 -",
		"rule 1 1-2-3 0 0 -", "rule 1 1--2 0 0 -", "rule 1 -1-2 0 0 -", "rule 1 01-2 0 0 -", "rule 1 1-02 0 0 -", "rule 1 +1-2 0 0 -", "rule 1 1-+2 0 0 -", "rule 1 a-2 0 0 -", "rule 1 1-b 0 0 -", "rule 1 1,2 0 0 -", "rule 1 1-9999999 0 0 -",
		"rule 1 1-18446744073709551618 0 0 -",
		// The Route.
		"rule 1 1-1 1001 0 -", "rule 1 1-1 -1 0 -", "rule 1 1-1 01 0 -", "rule 1 1-1 +1 0 -", "rule 1 1-1 a 0 -", "rule 1 1-1 - 0 -", "rule 1 1-1 9999999 0 -", "rule 1 1-1 -0 0 -", "rule 1 1-1 1.0 0 -", "rule 1 1-1 18446744073709551616 0 -",
		// Strip.
		"rule 1 1-1 0 2 -", "rule 1 2-5 0 3 -", "rule 1 1-1 0 -1 -", "rule 1 1-1 0 01 -", "rule 1 1-1 0 +1 -", "rule 1 1-1 0 a -", "rule 1 1-1 0 - -", "rule 1 1-1 0 9999999 -", "rule 1 1-1 0 -0 -",
		// Add.
		"rule 1 1-1 0 0 a", "rule 1 1-1 0 0 --", "rule 1 1-1 0 0 -1", "rule 1 1-1 0 0 1-", "rule 1 1-1 0 0 +1", "rule 1 1-1 0 0 " + ones(21), "rule 1 20-20 0 20 " + ones(21), "rule 1 1-1 0 0 ж",
		// Add and Most less Strip are too many together.
		"rule 1 1-1 0 0 " + ones(20), "rule 1 1-20 0 0 1", "rule 1 1-20 0 1 11", "rule 1 10-20 0 10 " + ones(11), "rule 1 1-11 0 0 " + ones(10),
	}
	for _, ahead := range []string{"", "rule 77 2-3 4 1 *", "rule 1* 2-3 4 1 *; rule 7 1-1 1 1 1"} {
		checkLineCases(t, rulesPart, refusedLines(ahead, lines...))
	}
}

// P20: rules each of which may be, but not behind the others.
func TestRulesTogether(t *testing.T) {
	checkLineCases(t, rulesPart, refusedLines("rule 12 2-3 1 0 -", "rule 12 2-3 1 0 -", "rule 12 4-5 6 2 7"))
	checkLineCases(t, rulesPart, refusedLines("rule 12 2-3 1 0 -; rule 1 1-1 1 0 -; rule * 1-1 1 0 -", "rule 12 2-2 2 0 -", "rule 1 1-1 1 0 -", "rule * 3-3 3 3 3"))
	checkLineCases(t, rulesPart, refusedLines(ruleLines(60), "rule 1 1-1 1 0 -", "rule 160 3-3 1 0 -", "rule 100 3-3 0 0 -"))
	all := strings.ReplaceAll(ruleLines(60), "rule ", "")
	last := "159 3-3 59 0 -"
	checkLineCases(t, rulesPart, []lineCase{{ruleLines(59), "rule " + last, "ok", all}})
	// The sixty-first is refused however often it is told.
	text := linesOf(ruleLines(61) + "; " + ruleLines(1) + "; rule 1 1-1 1 0 -")
	if got := impl.Console(text); got != strings.Repeat("ok\n", 60)+strings.Repeat("no\n", 3) {
		t.Errorf("%q", got)
	}
	if s := standingBehind(text); s.parts()[rulesPart] != all {
		t.Error(s)
	}
}

// P20: dial, with each outcome; its rules stay as they are.
func TestDialLines(t *testing.T) {
	rules := "rule 1 3-5 7 1 00; rule 112 3-3 0 0 -; rule 19 4-4 8 4 -; rule 2 1-2 9 1 -; rule 23 5-6 10 0 *"
	var cases []lineCase
	for _, c := range []string{
		"1: more", "11: more", "112: done 0 112", "1123: no", "123: may 7 0023", "1234: may 7 00234", "12345: done 7 002345", "123456: no", "19: more", "191: more", "1911: done 8 -", "19111: no",
		"2: may 9 -", "21: done 9 1", "23: more", "234: more", "23456: may 10 *23456", "234567: done 10 *234567", "2345678: no", "3: no", "0: no", "*: no", "#: no",
		// DialBad.
		"x: no", "12a: no", "1-2: no", "+1: no", "-: no", "ж: no", "１: no", "1\xff: no", "112x: no", ones(21) + ": no", "112\r: no", "112\x00: no", "\t: no",
	} {
		digits, says, _ := strings.Cut(c, ": ")
		cases = append(cases, lineCase{rules, "dial " + digits, says, asAhead})
	}
	checkLineCases(t, rulesPart, cases)
	long := "rule 1 20-20 5 0 -"
	checkLineCases(t, rulesPart, []lineCase{
		{long, "dial " + ones(20), "done 5 " + ones(20), asAhead},
		{long, "dial " + ones(21), "no", asAhead},
		{long, "dial " + ones(19), "more", asAhead},
		{"rule 1 1-20 5 0 -", "dial " + ones(19), "may 5 " + ones(19), asAhead},
		{"rule 1 1-20 5 0 -", "dial " + ones(20), "done 5 " + ones(20), asAhead},
		{"rule 1 1-20 1000 1 -", "dial 1", "may 1000 -", asAhead},
	})
	// Without rules nothing fits, nor can be gone on with.
	for _, digits := range []string{"1", "112", "0", "*", "x"} {
		if got := impl.Console("dial " + digits + "\n"); got != "no\n" {
			t.Errorf("%s: %q", digits, got)
		}
	}
}

// P20: each rule is asked from its own line on, not ahead of it.
func TestDialBetweenRules(t *testing.T) {
	checkTalk(t, "dial 12: no; rule 12 2-2 1 0 -: ok; dial 12: done 1 12; dial 1: more; rule 1 1-3 2 1 9: ok; dial 12: done 1 12; dial 1: may 2 9; rule 123 3-4 0 0 -: ok; dial 12: may 1 12; dial 123: done 0 123; rule 123 3-3 5 0 -: no; dial 123: done 0 123")
}

// P20: ReadRules tells the rules that are behind a text of lines of rules alone.
func TestRulesByReadRules(t *testing.T) {
	r := drawn(2011)
	for range 300 {
		rules := drawRules(&r, "12*", 1+r.below(60))
		text := impl.ShowRules(rules)
		console := ""
		for line := range strings.Lines(text) {
			console += "rule " + line
		}
		if len(console) > impl.MaxConsole {
			continue
		}
		got := standingBehind(console)
		if impl.ShowRules(got.rules) != text || impl.Console(console) != strings.Repeat("ok\n", len(rules)) {
			t.Errorf("%q: %s", console, got)
		}
		for range 5 {
			digits := drawDigits(&r, "12*", 8)
			if digits == "" {
				continue
			}
			checkSecondConsole(t, console+"dial "+digits)
		}
	}
}
