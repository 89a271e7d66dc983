package tests

import (
	"fmt"
	"strings"
	"testing"

	"loop.example/g00052/impl"
)

// P19: settings that are kept within one another.
func TestNestedCommands(t *testing.T) {
	for _, c := range []struct{ lines, want string }{
		{"begin; set a 1; begin; set a 2; commit; commit", "a=2 b=9"},
		{"begin; set a 1; begin; set a 2; abort; commit", "a=1 b=9"},
		{"begin; set a 1; begin; set a 2; commit; abort", "a=0 b=9"},
		{"begin; set a 1; begin; set a 2; abort; abort", "a=0 b=9"},
		{"begin; begin; set a 2; abort; set c 3; commit", "a=0 b=9 c=3"},
		{"begin; begin; set a 2; commit; set c 3; abort", "a=0 b=9"},
		{"begin; unset a; begin; unset b; abort; need b 9; set a 5; commit", "a=5 b=9"},
		{"begin; unset a; unset b; begin; set z 1; abort; commit", ""},
		{"begin; unset a; unset b; abort; need a 0; need b 9", "a=0 b=9"},
		// One behind the other.
		{"begin; set a 1; commit; begin; set a 2; abort", "a=1 b=9"},
		{"begin; set a 1; abort; begin; set c 2; commit", "a=0 b=9 c=2"},
		{"begin; set a 1; begin; set a 2; commit; begin; set a 3; abort; need a 2; begin; set a 4; commit; need a 4; abort; need a 0", "a=0 b=9"},
		{"begin; set a 1; begin; set a 2; abort; begin; set a 3; commit; need a 3; commit", "a=3 b=9"},
		// What is kept is not changed by what comes behind, in any place.
		{"begin; set a 7; set b 8; set c 9; abort; begin; set b 7; abort", "a=0 b=9"},
		{"begin; set A 7; unset b; set a 8; abort; begin; commit", "a=0 b=9"},
		{"begin; begin; begin; unset a; unset b; abort; need a 0; unset a; abort; need a 0; unset b; abort", "a=0 b=9"},
		// Four are kept.
		{"begin; begin; begin; begin; set a 1; commit; commit; commit; commit", "a=1 b=9"},
		{"begin; set a 1; begin; set a 2; begin; set a 3; begin; set a 4; abort; need a 3; abort; need a 2; abort; need a 1; abort", "a=0 b=9"},
		{"begin; begin; begin; begin; abort; begin; commit; begin; set a 1; commit; commit; commit; commit", "a=1 b=9"},
	} {
		list := settingsOf("a=0 b=9")
		checkConfigured(t, list, linesOf(c.lines), settingsOf(c.want))
		if line := checkSecondConfigure(t, list, linesOf(c.lines)); line != 0 {
			t.Errorf("the second telling of %v is wrong: %d", c, line)
		}
	}
}

// P19, P21: MaxNest are kept at a time and no more; those that are gone count no
// more, whichever way they went.
func TestMaxNest(t *testing.T) {
	for n := range 8 {
		for _, end := range []string{"commit\n", "abort\n"} {
			text := strings.Repeat("begin\n", n) + strings.Repeat(end, n)
			want := 0
			if n > 4 {
				want = 5
			}
			// However often they were kept ahead.
			for _, ahead := range []int{0, 1, 4, 20} {
				before := strings.Repeat("begin\nbegin\nset a 1\n"+end+end, ahead)
				line := want
				if line > 0 {
					line += 5 * ahead
				}
				if got := checkSecondConfigure(t, settingsOf("a=0"), before+text); got != line {
					t.Errorf("%q: %d, not %d", text, got, line)
				}
			}
			for more := range 3 {
				if n > 4 || n+more > 4 {
					continue
				}
				// As many ends too many.
				text := strings.Repeat("begin\n", n) + strings.Repeat(end, n+1+more)
				checkNotConfigured(t, settingsOf("a=0"), text, 2*n+1)
			}
		}
	}
	checkNotConfigured(t, nil, linesOf("begin; begin; begin; begin; commit; begin; begin; x"), 7)
	checkNotConfigured(t, nil, linesOf("begin; begin; begin; begin; abort; abort; begin; begin; begin"), 9)
}

// P19: settings that are still kept in the end change nothing, and tell how many
// lines there are and 1.
func TestKeptInTheEnd(t *testing.T) {
	for n := 1; n <= 4; n++ {
		for ended := range n {
			for _, end := range []string{"commit\n", "abort\n"} {
				for sets := range 3 {
					text := strings.Repeat("begin\nset a 1\n", n) + strings.Repeat("set b 1\n", sets) + strings.Repeat(end, ended)
					lines := 2*n + sets + ended
					for _, list := range [][]impl.Setting{nil, settingsOf("a=0"), settingsOf("a=1 b=1 c=1"), manySettings(38)} {
						checkNotConfigured(t, list, text, lines+1)
						checkNotConfigured(t, list, text+"x", lines+1)
						checkNotConfigured(t, list, text+"abort", lines+1)
						checkSecondConfigure(t, list, text)
					}
				}
			}
		}
	}
	checkNotConfigured(t, nil, "begin\n", 2)
	checkNotConfigured(t, nil, "begin", 1)
	checkNotConfigured(t, nil, "begin\nabort", 2)
	checkNotConfigured(t, nil, "begin\ncommit\nbegin\n", 4)
}

// P19: all texts of up to six commands out of a few.
func TestAllFewCommands(t *testing.T) {
	commands := []string{"begin\n", "commit\n", "abort\n", "set a 1\n", "set a 2\n", "unset a\n", "need a 1\n"}
	told := map[int]int{}
	var try func(text string, left int)
	try = func(text string, left int) {
		told[checkSecondConfigure(t, settingsOf("b=1"), text)]++
		if left == 0 {
			return
		}
		for _, command := range commands {
			try(text+command, left-1)
		}
	}
	try("", 6)
	for line := range 8 {
		if told[line] < 300 {
			t.Error("too few of a kind", line, told)
		}
	}
}

// drawCommand draws a line that can often be done.
func drawCommand(r *drawn) string {
	name := drawName(r)
	switch r.below(9) {
	case 0:
		return "begin\n"
	case 1:
		return "commit\n"
	case 2:
		return "abort\n"
	case 3:
		return "unset " + name + "\n"
	case 4:
		return "need " + name + " " + drawValue(r) + "\n"
	}
	return "set " + name + " " + drawValue(r) + "\n"
}

// drawCommands draws commands, and leaves most of them out that can't be done.
func drawCommands(r *drawn, list []impl.Setting, count int) string {
	text := ""
	for range count {
		longer := text + drawCommand(r)
		_, line := configureByMaps(list, longer)
		if line == 0 || line == strings.Count(longer, "\n")+1 || r.below(60) == 0 {
			text = longer
		}
	}
	return text
}

// P19: drawn texts, also such that a few bytes were put into or taken out of.
func TestDrawnCommands(t *testing.T) {
	r := drawn(1907)
	told := map[string]int{}
	for range 2500 {
		list := drawSettings(&r, 12)
		text := drawCommands(&r, list, r.below(40))
		if r.below(3) > 0 {
			text = closedText(list, text)
		}
		told[fmt.Sprint("as drawn ", checkSecondConfigure(t, list, text) == 0)]++
		for range 4 {
			at := r.below(len(text) + 1)
			end := min(len(text), at+r.below(2))
			changed := text[:at] + []string{"", " ", "\n", "a", "1", "ж", "\xff"}[r.below(7)] + text[end:]
			told[fmt.Sprint("changed ", checkSecondConfigure(t, list, changed) == 0)]++
		}
	}
	for how, n := range map[string]int{"as drawn true": 800, "as drawn false": 500, "changed true": 300, "changed false": 3000} {
		if told[how] < n {
			t.Error("too few of a kind", how, told)
		}
	}
}

// closedText ends what is still kept.
func closedText(list []impl.Setting, text string) string {
	for _, end := range []string{"", "commit\n", "abort\n", "commit\nabort\n", "abort\nabort\ncommit\n", "commit\nabort\nabort\ncommit\n"} {
		if _, line := configureByMaps(list, text+end); line == 0 {
			return text + end
		}
	}
	return text
}

// P19: a text's commands one after the other, each as a text of its own, lead to
// the same settings, where nothing is kept.
func TestCommandsOneByOne(t *testing.T) {
	r := drawn(1908)
	for range 400 {
		first := drawSettings(&r, 12)
		list, text := first, ""
		for range 60 {
			command := drawCommand(&r)
			got, line := impl.Configure(list, command)
			if line == 0 {
				text += command
				list = got
			}
			checkSecondConfigure(t, list, command)
		}
		if len(text) <= impl.MaxConfig {
			checkConfigured(t, first, text, list)
		}
	}
}
