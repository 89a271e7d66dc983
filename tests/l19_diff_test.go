package tests

import (
	"fmt"
	"slices"
	"strings"
	"testing"

	"loop.example/g00052/impl"
)

func checkDiff(t *testing.T, from, to []impl.Setting, want string) {
	t.Helper()
	if got := impl.Diff19(from, to); got != want {
		t.Errorf("%.1000s to %.1000s: %q, not %q", textOfSettings(from), textOfSettings(to), got, want)
	}
}

// diffByMaps strikes out what is in both alike, and sorts what is left.
func diffByMaps(from, to []impl.Setting) string {
	commands := map[string]string{}
	for _, setting := range from {
		commands[setting.Name] = "unset " + setting.Name + "\n"
	}
	old := mapOfSettings(from)
	for _, setting := range to {
		commands[setting.Name] = "set " + setting.Name + " " + setting.Value + "\n"
		if value, had := old[setting.Name]; had && value == setting.Value {
			delete(commands, setting.Name)
		}
	}
	text := ""
	for _, setting := range settingsBy(commands) {
		text += setting.Value
	}
	return text
}

// checkLeads looks whether what Diff19 tells leads from the ones to the others,
// or changes nothing where they are too many on the way or the text too long. It
// answers which of them.
func checkLeads(t *testing.T, from, to []impl.Setting) string {
	t.Helper()
	text := impl.Diff19(from, to)
	checkDiff(t, from, to, diffByMaps(from, to))
	if len(text) > impl.MaxConfig {
		checkNotConfigured(t, from, text, -1)
		return "long"
	}
	if line := lineOfTooMany(from, text); line > 0 {
		checkNotConfigured(t, from, text, line)
		return "many"
	}
	checkConfigured(t, from, text, to)
	checkNestedLeads(t, from, to, text)
	return "led"
}

// lineOfTooMany counts on the way, command by command; 0 where they are never
// too many.
func lineOfTooMany(from []impl.Setting, text string) int {
	old := mapOfSettings(from)
	count, number := len(from), 0
	for line := range strings.Lines(text) {
		number++
		words := strings.Fields(line)
		_, had := old[words[1]]
		switch {
		case words[0] == "unset":
			count--
		case !had:
			count++
		}
		if count > impl.MaxSettings {
			return number
		}
	}
	return 0
}

// checkNestedLeads takes a text that leads: between begin and commit it leads
// too, between begin and abort to nowhere.
func checkNestedLeads(t *testing.T, from, to []impl.Setting, text string) {
	t.Helper()
	for depth := 1; depth <= impl.MaxNest; depth++ {
		begins := strings.Repeat("begin\n", depth)
		if nested := begins + text + strings.Repeat("commit\n", depth); len(nested) <= impl.MaxConfig {
			checkConfigured(t, from, nested, to)
		}
		if nested := begins + text + strings.Repeat("abort\n", depth); len(nested) <= impl.MaxConfig {
			checkConfigured(t, from, nested, from)
		}
		if nested := begins + text + strings.Repeat("commit\n", depth-1) + "abort\n"; len(nested) <= impl.MaxConfig {
			checkConfigured(t, from, nested, from)
		}
	}
}

// P19: known settings, and the commands that lead from the ones to the others.
func TestKnownDiffs(t *testing.T) {
	for _, c := range []struct{ from, to, want string }{
		{"", "", ""},
		{"a=1", "a=1", ""},
		{"", "a=1", "set a 1\n"},
		{"a=1", "", "unset a\n"},
		{"a=1", "a=2", "set a 2\n"},
		{"a=1", "a=01", "set a 01\n"},
		{"a=on", "a=On", "set a On\n"},
		{"a=1", "b=1", "unset a\nset b 1\n"},
		{"b=1", "a=1", "set a 1\nunset b\n"},
		{"a=1", "A=1", "set A 1\nunset a\n"},
		{"a=1 b=2 c=3", "a=1 b=2 c=3", ""},
		{"a=1 b=2 c=3", "a=1 c=3", "unset b\n"},
		{"a=1 c=3", "a=1 b=2 c=3", "set b 2\n"},
		{"a=1 b=2 c=3", "a=2 b=2 d=3", "set a 2\nunset c\nset d 3\n"},
		{"a=12 b=on c=x", "a=13 b=on d=y", "set a 13\nunset c\nset d y\n"},
		{"c=3", "a=1 b=2", "set a 1\nset b 2\nunset c\n"},
		{"a=1 b=2", "c=3", "unset a\nunset b\nset c 3\n"},
		{"a=1 c=1 e=1", "b=1 d=1 f=1", "unset a\nset b 1\nunset c\nset d 1\nunset e\nset f 1\n"},
		{"a=1 a-=1 aa=1", "a.=1 ab=1", "unset a\nunset a-\nset a. 1\nunset aa\nset ab 1\n"},
		{"Я=ю", "z=1 À=Б", "set z 1\nset À Б\nunset Я\n"},
	} {
		from, to := settingsOf(c.from), settingsOf(c.to)
		checkDiff(t, from, to, c.want)
		if diffByMaps(from, to) != c.want {
			t.Errorf("the second telling of %v is wrong", c)
		}
		if checkLeads(t, from, to) != "led" {
			t.Errorf("%v leads to nowhere", c)
		}
	}
}

// P19: all settings of three Names, each not there or with one of two Values.
func TestAllDiffs(t *testing.T) {
	all := func(i int) []impl.Setting {
		var list []impl.Setting
		for _, name := range []string{"a", "b", "é"} {
			if i%3 > 0 {
				list = append(list, impl.Setting{Name: name, Value: []string{"1", "on"}[i%3-1]})
			}
			i /= 3
		}
		return list
	}
	for i := range 27 {
		for k := range 27 {
			if how := checkLeads(t, all(i), all(k)); how != "led" {
				t.Error(how, all(i), all(k))
			}
		}
	}
}

// P19: a list that is none, on either side.
func TestDiffOfNoSettings(t *testing.T) {
	for _, wrong := range wrongSettings() {
		for _, list := range [][]impl.Setting{nil, settingsOf("a=1"), settingsOf("b=1 c=2"), manySettings(40), wrong} {
			checkDiff(t, wrong, list, "")
			checkDiff(t, list, wrong, "")
		}
	}
}

// P19, P21: up to MaxSettings on the way, and more: the commands change nothing
// then, though fewer stand on either side.
func TestDiffsOfMany(t *testing.T) {
	pool := manySettings(80)
	sizes := []int{0, 1, 20, 39, 40}
	told := map[string]int{}
	for i := range 25 * 14 * 14 {
		n, m := sizes[i%5], sizes[i/5%5]
		from, to := 3*(i/25%14), 3*(i/25/14)
		told[checkLeads(t, pool[from:from+n], pool[to:to+m])]++
	}
	if told["led"] < 3500 || told["many"] < 500 || told["long"] > 0 {
		t.Error("too few of a kind", told)
	}
	for n := range 41 {
		// All of from is unset ahead, or behind: it makes room, or comes too late.
		for _, m := range []int{0, 1, 20, 40, 40 - n, min(41-n, 40)} {
			to := settingsNamed("b", m)
			if how := checkLeads(t, settingsNamed("a", n), to); how != "led" {
				t.Error(how, n, m)
			}
			want := "led"
			if n+m > 40 {
				want = "many"
			}
			if how := checkLeads(t, settingsNamed("c", n), to); how != want {
				t.Error(how, n, m)
			}
		}
	}
}

// settingsNamed are n settings whose Names begin so, with Values of nine digits.
func settingsNamed(begin string, n int) []impl.Setting {
	var list []impl.Setting
	for i := range n {
		list = append(list, impl.Setting{Name: fmt.Sprint(begin, 100+i), Value: fmt.Sprintf("%09d", i)})
	}
	return list
}

// longSettings have Names of 28 bytes and Values of 32, so that "unset" of one is
// 35 bytes, and "set" 66.
func longSettings(letter string, n int) []impl.Setting {
	var list []impl.Setting
	for i := range n {
		name := letter + fmt.Sprint(100+i) + strings.Repeat("ж", 12)
		list = append(list, impl.Setting{Name: name, Value: strings.Repeat("Я", 16)})
	}
	return list
}

// P19, P21: what is told is told whole, however long; up to MaxConfig bytes it
// leads to the others.
func TestLongDiffs(t *testing.T) {
	told := map[string]int{}
	for n := range 41 {
		for k := range 41 {
			// Those of from are unset ahead of those of to.
			told[checkLeads(t, longSettings("a", n), longSettings("b", k))]++
		}
	}
	if told["led"] < 500 || told["long"] < 200 || told["many"] > 0 {
		t.Error("too few of a kind", told)
	}
	from, to := longSettings("a", 23), longSettings("b", 33)
	if size := len(impl.Diff19(from, to)); size != 23*35+33*66 {
		t.Error("not as long", size)
	}
	for name := 1; name <= 16; name++ {
		for value := 1; value <= 16; value++ {
			last := impl.Setting{Name: strings.Repeat("z", name), Value: strings.Repeat("y", value)}
			want := "led"
			if 23*35+33*66+len("set  \n")+name+value > 3000 {
				want = "long"
			}
			if how := checkLeads(t, from, append(slices.Clone(to), last)); how != want {
				t.Error(how, name, value)
			}
		}
	}
}

// P19: drawn settings, with many Names in common.
func TestDrawnDiffs(t *testing.T) {
	r := drawn(1905)
	for range 4000 {
		from, to := drawSettings(&r, 20), drawSettings(&r, 20)
		if how := checkLeads(t, from, to); how != "led" {
			t.Error(how, from, to)
		}
	}
}
