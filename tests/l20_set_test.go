package tests

import (
	"fmt"
	"strings"
	"testing"

	"loop.example/g00052/impl"
)

// setLines make so many settings, b100 and so on, as manySettings are.
func setLines(n int) string {
	var lines []string
	for _, setting := range manySettings(n) {
		lines = append(lines, "set "+setting.Name+" "+setting.Value)
	}
	return strings.Join(lines, "; ")
}

// setCase has the settings as they stand written as settingsOf reads them.
func setCase(ahead, line, stands string) lineCase {
	return lineCase{ahead, line, "ok", textOfSettings(settingsOf(stands))}
}

// P20: set and unset, as Configure does them.
func TestSetLines(t *testing.T) {
	words := strings.Repeat("я", 16)
	checkLineCases(t, settingsPart, []lineCase{
		setCase("", "set a 1", "a=1"),
		setCase("", "set a on", "a=on"),
		setCase("", "set A 000000000", "A=000000000"),
		setCase("", "set a-_.9 123456789", "a-_.9=123456789"),
		setCase("", "set "+words+" "+words, words+"="+words),
		setCase("", "set set unset", "set=unset"),
		setCase("", "set begin abort", "begin=abort"),
		setCase("set b 1", "set a 2", "a=2 b=1"),
		setCase("set b 1", "set ж 2", "b=1 ж=2"),
		setCase("set a 1; set c 3", "set b 2", "a=1 b=2 c=3"),
		setCase("set a 1", "set a 2", "a=2"),
		setCase("set a 1", "set a 1", "a=1"),
		setCase("set a 1; set b 2; set c 3", "unset b", "a=1 c=3"),
		setCase("set a 1", "unset a", ""),
		setCase("set set 1", "unset set", ""),
		{setLines(39), "set a 1", "ok", textOfSettings(append(settingsOf("a=1"), manySettings(39)...))},
		{setLines(40), "set b139 7", "ok", textOfSettings(append(manySettings(39), impl.Setting{Name: "b139", Value: "7"}))},
		{setLines(40), "unset b139", "ok", textOfSettings(manySettings(39))},
	})
}

// P20: what can't be set or unset, and all that only Configure knows.
func TestRefusedSetLines(t *testing.T) {
	lines := []string{
		// One word more, or less.
		"set a", "set", "set a 1 2", "set a 1 ", "set a  1", "set  a 1", "set a 1 #", "unset", "unset a b", "unset x a", "unset zz ", "unset  zz",
		// What only Configure knows.
		"begin", "commit", "abort", "need a 1", "need zz on", "need a", "begin x", "commit 1",
		// No words.
		"set 1 a", "set 9a 1", "set - 1", "set .a 1", "set _ 1", "set × 1", "set ё 1", "set a\t 1", "set \xff 1", "set a\xff 1", "set a# 1", "set #a 1", "set " + strings.Repeat("a", 17) + " 1", "set " + strings.Repeat("я", 17) + " 1",
		// No values.
		"set a 1234567890", "set a 1a", "set a -1", "set a +1", "set a 1.5", "set a -", "set a ×", "set a \xff", "set a 1\r", "set a 1\x00", "set a " + strings.Repeat("a", 17), "set a " + strings.Repeat("1", 16),
		// Names that are not there.
		"unset y", "unset zzz", "unset z", "unset -", "unset 1", "unset ×", "unset zz\r", "unset \xff",
		// Longer than a text of commands may be.
		"set a " + strings.Repeat("1", 2994), "set " + strings.Repeat("a", 2995) + " 1", "unset " + strings.Repeat("a", 3000),
	}
	for _, ahead := range []string{"", "set b 1; set c on"} {
		checkLineCases(t, settingsPart, refusedLines(ahead, append(lines, "unset a", "unset B")...))
	}
	checkLineCases(t, settingsPart, refusedLines(setLines(40), "set a 1", "set b140 1", "set zzz on", "set a 1 2", "unset b140", "unset a", "begin", "need b100 0"))
}

// P20: settings are told by Find19, their names as words alone.
func TestGetLines(t *testing.T) {
	some := "set a 1; set b on; set ж Ю-2; set get 9; set Z 007"
	checkLineCases(t, settingsPart, []lineCase{
		{some, "get a", "1", asAhead},
		{some, "get b", "on", asAhead},
		{some, "get ж", "Ю-2", asAhead},
		{some, "get get", "9", asAhead},
		{some, "get Z", "007", asAhead},
		{some + "; set a 2", "get a", "2", asAhead},
		{"set no none", "get no", "none", asAhead},
		{"set x no", "get x", "no", asAhead},
	})
	none := []string{"get c", "get A", "get Ж", "get z", "get aa", "get -", "get 1", "get 1 2", "get", "get a a", "get \xff", "get a\r", "get a\x00", "get ×", "get " + strings.Repeat("a", 17), "get " + strings.Repeat("a", 3800)}
	checkLineCases(t, settingsPart, refusedLines("", append(none, "get a", "get no")...))
	checkLineCases(t, settingsPart, refusedLines("set b 1; set a1 2; set ж 3; unset ж", append(none, "get a", "get ж", "get 2")...))
}

// P20: the settings behind lines of the console are those of Configure by the same
// commands, each by itself.
func TestSettingsByConfigure(t *testing.T) {
	r := drawn(2031)
	said := map[bool]int{}
	for range 200 {
		var list []impl.Setting
		text, want := "", ""
		for range r.below(60) {
			command := drawCommand(&r)
			next, line := impl.Configure(list, command)
			word := strings.Fields(command)[0]
			done := line == 0 && (word == "set" || word == "unset")
			said[done]++
			if done {
				list = next
			}
			text += command
			want += map[bool]string{true: "ok\n", false: "no\n"}[done]
		}
		if got := impl.Console(text); got != want {
			t.Errorf("%q: %q, not %q", text, got, want)
		}
		if got := standingBehind(text); textOfSettings(got.settings) != textOfSettings(list) {
			t.Errorf("behind %q: %s, not %s", text, got, textOfSettings(list))
		}
		for _, name := range []string{"a", "b", "ж", "a-1", "Bж"} {
			value, has := impl.Find19(list, name)
			if !has {
				value = "no"
			}
			if got := impl.Console(text + "get " + name); got != want+value+"\n" {
				t.Errorf("%q, get %s: %q", text, name, got)
			}
		}
	}
	if said[true] < 500 || said[false] < 500 {
		t.Error(said)
	}
}

// P20: law and unlaw of every number, as chapter 11 tells them.
func TestEveryLawLine(t *testing.T) {
	var lines, want []string
	tell := func() {
		if got := impl.Console(strings.Join(lines, "\n")); got != strings.Join(want, "") {
			t.Errorf("%q: %q", lines, got)
		}
		lines, want = nil, nil
	}
	add := func(line string, n int) {
		lines, want = append(lines, line), append(want, fmt.Sprintln(n))
		if len(lines) == 120 {
			tell()
		}
	}
	for level := -32767; level <= 32767; level++ {
		add(fmt.Sprint("law ", level), impl.ToLaw(level))
	}
	for b := range 256 {
		add(fmt.Sprint("unlaw ", b), impl.FromLaw(b))
	}
	for servers := range 9 {
		for num := range 21 {
			for den := 1; den <= 10; den++ {
				part, _ := impl.Blocking(servers, num, den)
				lines, want = append(lines, fmt.Sprintf("block %d %d %d", servers, num, den)), append(want, fmt.Sprintf("%d/%d\n", part.Num, part.Den))
				if len(lines) == 120 {
					tell()
				}
			}
		}
	}
	tell()
}

// P20: each of the sixteen digits at every phase; what is named otherwise is none.
func TestEveryToneLine(t *testing.T) {
	const digits = "123A456B789C*0#D"
	for _, digit := range digits {
		for from := 0; from < 256; from += 100 {
			text, want := "", ""
			for phase := from; phase < min(from+100, 256); phase++ {
				text += fmt.Sprintf("tone %c %d\n", digit, phase)
				want += string(digit) + "\n"
			}
			if got := impl.Console(text); got != want {
				t.Errorf("%q: %q", text, got)
			}
		}
	}
	var names []string
	for b := range 256 {
		names = append(names, string([]byte{byte(b)}))
	}
	for from := range digits {
		for to := from + 2; to <= len(digits); to++ {
			names = append(names, digits[from:to])
		}
	}
	names = append(names, "", "11", "1 1", "Ａ", "А", "١", "0x", "a", "-1", "15", "16", "00")
	for _, name := range names {
		want := "no\n"
		switch {
		case name == "\n":
			// That is a line tone, with nothing behind its blank, and one more.
			want = "no\nno\n"
		case len(name) == 1 && strings.Contains(digits, name):
			want = name + "\n"
		}
		if got := impl.Console("tone " + name + " 7"); got != want {
			t.Errorf("tone %q: %q", name, got)
		}
	}
}
