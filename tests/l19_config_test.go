package tests

import (
	"fmt"
	"maps"
	"regexp"
	"slices"
	"strings"
	"testing"

	"loop.example/g00052/impl"
)

func checkConfigured(t *testing.T, list []impl.Setting, text string, want []impl.Setting) {
	t.Helper()
	if got, line := impl.Configure(list, text); line != 0 || !slices.Equal(got, want) {
		t.Errorf("%.2000s by %.4000q: %.2000s and %d, not %.2000s", textOfSettings(list), text, textOfSettings(got), line, textOfSettings(want))
	}
}

// checkNotConfigured looks for the settings as they were, and that number.
func checkNotConfigured(t *testing.T, list []impl.Setting, text string, want int) {
	t.Helper()
	if got, line := impl.Configure(list, text); line != want || !slices.Equal(got, list) {
		t.Errorf("%.2000s by %.4000q: %.2000s and %d, not %d", textOfSettings(list), text, textOfSettings(got), line, want)
	}
}

var commandForm = regexp.MustCompile(`\A(?:(set|need) ([^ ]+) ([^ ]+)|(unset) ([^ ]+)|(begin)|(commit)|(abort))\z`)

// configureByMaps keeps maps, the last one of which changes. It tells whether
// each line can be done; those behind the first that can't are not asked.
func configureByMaps(list []impl.Setting, text string) ([]impl.Setting, int) {
	maps := []map[string]string{mapOfSettings(list)}
	if !slices.Equal(settingsBy(maps[0]), list) || len(list) > 40 || len(text) > 3000 {
		return list, -1
	}
	number := 0
	for {
		number++
		line, rest, ended := strings.Cut(text, "\n")
		if !ended && (line != "" || len(maps) > 1) {
			return list, number
		}
		if !ended {
			return settingsBy(maps[0]), 0
		}
		form := commandForm.FindStringSubmatch(line)
		if form == nil || !doByMaps(&maps, form[1]+form[4]+form[6]+form[7]+form[8], form[2]+form[5], form[3]) {
			return list, number
		}
		text = rest
	}
}

func doByMaps(all *[]map[string]string, command, name, value string) bool {
	last := len(*all) - 1
	now := (*all)[last]
	held, has := now[name]
	switch command {
	case "set":
		if !wordForm.MatchString(name) || !valueByForm(value) || !has && len(now) == 40 {
			return false
		}
		now[name] = value
	case "unset":
		delete(now, name)
		return has
	case "need":
		return has && held == value
	case "begin":
		*all = append(*all, maps.Clone(now))
		return len(*all) <= 5
	case "commit":
		if last == 0 {
			return false
		}
		*all = append((*all)[:last-1], now)
	case "abort":
		*all = (*all)[:last]
		return last > 0
	}
	return true
}

// checkSecondConfigure answers the number that is told.
func checkSecondConfigure(t *testing.T, list []impl.Setting, text string) int {
	t.Helper()
	want, line := configureByMaps(list, text)
	if line == 0 {
		checkConfigured(t, list, text, want)
	} else {
		checkNotConfigured(t, list, text, line)
	}
	return line
}

// linesOf puts a line end behind each; "set a 1; unset b" are two.
func linesOf(text string) string {
	if text == "" {
		return ""
	}
	return strings.ReplaceAll(text, "; ", "\n") + "\n"
}

// P19: known commands that can be done.
func TestKnownCommands(t *testing.T) {
	for _, c := range []struct{ list, lines, want string }{
		{"", "", ""},
		{"a=1 b=on", "", "a=1 b=on"},
		{"", "set a 1", "a=1"},
		{"", "set a on", "a=on"},
		{"a=1", "set a 2", "a=2"},
		{"a=1", "set a 1", "a=1"},
		{"a=1", "set A 2", "A=2 a=1"},
		{"b=1", "set a 1", "a=1 b=1"},
		{"b=1", "set c 1", "b=1 c=1"},
		{"a=1 c=1", "set b 1", "a=1 b=1 c=1"},
		{"a=1 c=1", "set ab 1", "a=1 ab=1 c=1"},
		{"z=1", "set ж on; set É 1", "z=1 É=1 ж=on"},
		{"", "set a 1; set a 2; set a 3", "a=3"},
		{"", "set set unset; set begin set", "begin=set set=unset"},
		{"", "set a 123456789; set abcdefghijklmnop ABCDEFGHIJKLMNOP; set яяяяяяяяяяяяяяяя яяяяяяяяяяяяяяяя", "a=123456789 abcdefghijklmnop=ABCDEFGHIJKLMNOP яяяяяяяяяяяяяяяя=яяяяяяяяяяяяяяяя"},
		{"", "set a 000; set b- x.; set c 0", "a=000 b-=x. c=0"},
		{"a=1", "unset a", ""},
		{"a=1 b=2 c=3", "unset a", "b=2 c=3"},
		{"a=1 b=2 c=3", "unset b", "a=1 c=3"},
		{"a=1 b=2 c=3", "unset c", "a=1 b=2"},
		{"a=1 b=2 c=3", "unset b; unset a; unset c", ""},
		{"a=1", "unset a; set a 2; unset a; set b 2", "b=2"},
		{"", "set a 1; unset a", ""},
		{"a=1", "need a 1", "a=1"},
		{"a=1 b=on", "need b on; need a 1; need b on", "a=1 b=on"},
		{"a=1", "set a 2; need a 2; set a 3; need a 3", "a=3"},
		{"", "set a 1; need a 1; unset a", ""},
		{"a=1", "begin; commit", "a=1"},
		{"a=1", "begin; abort", "a=1"},
		{"a=1", "begin; set a 2; commit", "a=2"},
		{"a=1", "begin; set a 2; abort", "a=1"},
		{"a=1", "begin; unset a; abort; need a 1", "a=1"},
		{"a=1", "set b 2; begin; set b 3; need b 3; abort; need b 2", "a=1 b=2"},
	} {
		list, want, text := settingsOf(c.list), settingsOf(c.want), linesOf(c.lines)
		checkConfigured(t, list, text, want)
		if got, line := configureByMaps(list, text); line != 0 || !slices.Equal(got, want) {
			t.Errorf("the second telling of %v is wrong: %s and %d", c, textOfSettings(got), line)
		}
	}
}

// wrongCommands can't be done behind any settings, each by itself.
func wrongCommands() []string {
	lines := []string{
		// Other words, and great letters.
		"", "x", "a", "set", "unset", "need", "SET a 1", "Set a 1", "sets a 1", "se a 1", "UNSET a", "unsets a", "NEED a 1", "needs a 1", "BEGIN", "Begin", "begins",
		"COMMIT", "commits", "ABORT", "aborts", "get a", "# set a 1", "#", "end", "begi", "commi", "abor", "rollback", "a 1", "a=1", "set a=1",
		// Too few words and too many.
		"set a", "set a 1 2", "set a 1 set b 2", "unset a b", "unset a 1", "need a", "need a 1 1", "begin a", "begin 1", "begin begin", "commit a", "abort a", "abort abort",
		// Other blanks.
		"set  a 1", "set a  1", "set a 1 ", " set a 1", "  set a 1", "set a 1  ", "set  a", "set a ", "set  ", "set ", "set   ", "unset  a", "unset a ", " unset a", "unset ", "unset  ",
		"need  a 1", "need a  1", "need a 1 ", " need a 1", "need a ", "need  ", "begin ", " begin", "commit ", " commit", "abort ", " abort", " ", "  ", "   ",
		"set\ta 1", "set a\t1", "set a 1\t", "set a 1\r", "\rset a 1", "unset a\r", "begin\r", "set\u00a0a 1", "set a 1\x00", "\x00", "set a 1\v", "set a 1\u2028", "set\n", "\nset a 1", "\ufeffset a 1",
		// What is no word and no value.
		"set 9 1", "set 9a 1", "set -a 1", "set . 1", "set _a 1", "set a+b 1", "set × 1", "set a÷ 1", "set ё 1", "set \u03a2 1", "set 中 1", "set \xff 1", "set a\xc3 1",
		"set abcdefghijklmnopq 1", "set яяяяяяяяяяяяяяяяя 1", "set a 1234567890", "set a 1a", "set a -1", "set a +1", "set a 1.5", "set a -", "set a .", "set a ×", "set a \xff", "set a 1\xff",
		"set a abcdefghijklmnopq", "set a яяяяяяяяяяяяяяяяя", "set a 0x1", "set a ٣",
		"unset 9", "unset ×", "unset \xff", "unset -", "need 9 1", "need a 1234567890", "need × 1", "need a ×", "need a -1", "need \xff \xff",
	}
	return append(lines, "set "+strings.Repeat("a", 2000)+" 1", "set a "+strings.Repeat("1", 2000), strings.Repeat("x", 2000), strings.Repeat(" ", 2000), strings.Repeat("set ", 500))
}

// P19: what can't be done is told by its line, whatever stands ahead and behind.
func TestWrongCommands(t *testing.T) {
	for _, line := range wrongCommands() {
		for _, list := range [][]impl.Setting{nil, settingsOf("a=1 b=2"), manySettings(40)} {
			for _, ahead := range []string{"", "begin\nabort\n", "begin\n", "begin\nunset b\nset b 1\ncommit\nset c 1\nunset c\n"} {
				// What can't be done must be the line, not what stands ahead.
				if strings.Contains(ahead, "unset") && len(list) != 2 {
					continue
				}
				want := strings.Count(ahead, "\n") + 1
				for _, behind := range []string{"", "x\n", "set a 2\n", "set a 2", "abort\n", "\n"} {
					checkNotConfigured(t, list, ahead+line+"\n"+behind, want)
				}
				if line != "" {
					checkNotConfigured(t, list, ahead+line, want)
				}
				checkSecondConfigure(t, list, ahead+line+"\n")
			}
		}
	}
}

// P19: commands that can't be done as things stand.
func TestCommandsThatCannotBeDoneNow(t *testing.T) {
	for _, c := range []struct {
		list, lines string
		want        int
	}{
		{"", "unset a", 1},
		{"a=1", "unset b", 1},
		{"a=1", "unset A", 1},
		{"a=1", "unset aa", 1},
		{"ab=1", "unset a", 1},
		{"a=1", "unset a; unset a", 2},
		{"a=1", "set b 1; unset b; unset b; set c 1", 3},
		{"", "set a 1; begin; unset a; unset a; abort", 4},
		{"", "begin; set a 1; abort; unset a", 4},
		{"", "need a 1", 1},
		{"a=1", "need b 1", 1},
		{"a=1", "need a 2", 1},
		{"a=1", "need a 01", 1},
		{"a=1", "need A 1", 1},
		{"a=on", "need a On", 1},
		{"a=on", "need a o", 1},
		{"a=on", "need a onn", 1},
		{"a=1", "set a 2; need a 1", 2},
		{"a=1", "unset a; need a 1", 2},
		{"a=1", "set b 1; set c 1; need a 2; set d 1", 3},
		{"a=1", "begin; set a 2; abort; need a 2", 4},
		{"a=1", "begin; set a 2; commit; need a 1", 4},
		{"", "commit", 1},
		{"", "abort", 1},
		{"a=1", "set a 2; commit", 2},
		{"a=1", "set a 2; abort", 2},
		{"", "begin; commit; commit", 3},
		{"", "begin; commit; abort", 3},
		{"", "begin; abort; commit", 3},
		{"", "begin; abort; abort", 3},
		{"", "begin; begin; commit; abort; commit", 5},
		{"", "begin; begin; begin; begin; begin", 5},
		// The first that can't be done counts, though more can't.
		{"", "unset a; commit; need b 1", 1},
		{"", "set a 1; unset b; x; commit", 2},
		// It counts ahead of what is kept in the end.
		{"", "begin; unset a", 2},
		{"", "begin; begin; x; begin", 3},
	} {
		list := settingsOf(c.list)
		for _, behind := range []string{"", "x", "set a 1", "\n", "begin\n"} {
			checkNotConfigured(t, list, linesOf(c.lines)+behind, c.want)
		}
		if _, line := configureByMaps(list, linesOf(c.lines)); line != c.want {
			t.Errorf("the second telling of %v is wrong: %d", c, line)
		}
	}
}

// P19: what stands behind the last line end, a command or not, can be done or not.
func TestBehindTheLastLineEnd(t *testing.T) {
	for _, behind := range []string{"set a 1", "unset a", "need a 1", "begin", "commit", "abort", "x", " ", "\r", "\x00", "#", "se"} {
		for n := range 5 {
			text := linesOf(strings.TrimSuffix(strings.Repeat("set a 1; ", n), "; "))
			checkNotConfigured(t, settingsOf("a=1 b=2"), text+behind, n+1)
			checkNotConfigured(t, nil, text+behind, n+1)
			checkNotConfigured(t, nil, text+"begin\n"+behind, n+2)
		}
	}
	// An empty line is none of the commands, though nothing stands in it.
	for text, want := range map[string]int{
		"\n": 1, "\n\n": 1, "\nset a 1\n": 1, "set a 1\n\n": 2, "set a 1\n\nset b 1\n": 2, "set a 1\nset b 1\n\n\n": 3, "begin\nabort\n\n": 3,
		"\r\n": 1, "set a 1\r\n": 1, "set a 1\rset b 1\r": 1, "begin\n\nabort\n": 2,
	} {
		checkNotConfigured(t, settingsOf("a=1 b=2"), text, want)
		checkNotConfigured(t, nil, text, want)
	}
}

// P19, P21: MaxSettings on the way, and one more.
func TestSettingsOnTheWay(t *testing.T) {
	for n := range 41 {
		list := manySettings(n)
		text := ""
		for i := range 50 {
			// Those ahead of all others, behind them, and between them.
			text += fmt.Sprintf("set %s%d 1\n", []string{"a", "c", "b100x"}[i%3], i)
			if n+i < 40 {
				if checkSecondConfigure(t, list, text) != 0 {
					t.Error("can't be done", n, i)
				}
			} else {
				checkNotConfigured(t, list, text, 41-n)
				checkNotConfigured(t, list, "begin\n"+text+"abort\n", 42-n)
			}
		}
	}
	list := manySettings(40)
	for _, c := range []struct {
		lines string
		want  int
	}{
		{"set a 1", 1},
		{"set b100 1", 0},
		{"set b139 1; set b100 on", 0},
		{"set b140 1", 1},
		{"unset b100; set a 1", 0},
		{"unset b139; set z 1; unset z; set b139 2", 0},
		{"unset b120; set a 1; set z 1", 3},
		{"unset b120; unset b121; set a 1; set z 1; set y 1", 5},
		{"begin; set a 1", 2},
		{"begin; unset b100; set a 1; commit; set z 1", 5},
		{"begin; unset b100; set a 1; abort; set z 1", 5},
		{"begin; unset b100; abort; set a 1", 4},
		{"begin; unset b100; commit; set a 1", 0},
		{"begin; begin; begin; begin; set b105 7; unset b104; set a 1; commit; abort; commit; commit; need b104 4; need b105 5", 0},
	} {
		if line := checkSecondConfigure(t, list, linesOf(c.lines)); line != c.want {
			t.Errorf("%s: %d, not %d", c.lines, line, c.want)
		}
	}
}

// P19, P21: texts of MaxConfig bytes and one more, whatever they hold.
func TestLengthsOfCommands(t *testing.T) {
	set := strings.Repeat("set a 1\n", 375)
	for _, list := range [][]impl.Setting{nil, settingsOf("a=2 b=3"), manySettings(39)} {
		for _, c := range []struct {
			text string
			want int
		}{
			{set, 0},
			{set[8:], 0},
			{set[8:] + "need a 1\n", -1},
			{set[8:] + "set a 12\n", -1},
			{set[8:] + "set a ж\n", -1},
			{set[16:] + "begin\nset a 123\n", 376},
			{set[16:] + "begin\nset a 1234\n", -1},
			{set[8:] + "set a 12", 375},
			{set[8:] + "set a 123", -1},
			{set + set, -1},
			{set + "\n", -1},
			{set + "x", -1},
			{set + strings.Repeat("x", 100000), -1},
			{"x\n" + set[8:], 1},
			{"x\n" + set, -1},
			{strings.Repeat("x", 3000), 1},
			{strings.Repeat("x", 3001), -1},
			{strings.Repeat("\n", 3000), 1},
			{strings.Repeat("\n", 3001), -1},
			{strings.Repeat("ж", 1500), 1},
			{strings.Repeat("ж", 1501), -1},
			{strings.Repeat("ж", 3000), -1},
			{strings.Repeat("begin\nabort\n", 250), 0},
			{strings.Repeat("begin\nabort\n", 250) + "\n", -1},
		} {
			if line := checkSecondConfigure(t, list, c.text); line != c.want {
				t.Errorf("%.40q, %d bytes: %d, not %d", c.text, len(c.text), line, c.want)
			}
		}
	}
}

// P19: a list that is none stays as it is, whatever the text is.
func TestCommandsToNoSettings(t *testing.T) {
	for _, list := range wrongSettings() {
		for _, text := range []string{"", "set b 1\n", "unset a\nunset a\n", "x", "commit\n", strings.Repeat("x", 4000), strings.Repeat("set a 1\n", 375)} {
			checkNotConfigured(t, list, text, -1)
		}
	}
}
