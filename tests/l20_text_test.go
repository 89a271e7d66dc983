package tests

import (
	"fmt"
	"strings"
	"testing"

	"loop.example/g00052/impl"
)

// checkLong looks whether a text is too long, and nothing is told of it.
func checkLong(t *testing.T, why string, text string) {
	t.Helper()
	if got := impl.Console(text); got != "long\n" {
		t.Errorf("%s: %.200q", why, got)
	}
	s := standingBehind(text)
	if s.panel.Lines != 0 || len(s.panel.Calls) != 0 || len(s.rules) != 0 || len(s.settings) != 0 {
		t.Errorf("behind %s: %s", why, s)
	}
	if s.fabric.Sides != 0 || s.fabric.Ports != 0 || s.fabric.Mid != 0 || len(s.fabric.Paths) != 0 {
		t.Errorf("behind %s: %v", why, s.fabric)
	}
	if s.desk.Now != 0 || s.desk.Given != 0 || len(s.desk.Agents) != 0 || len(s.desk.Queue) != 0 {
		t.Errorf("behind %s: %v", why, s.desk)
	}
}

func checkNotLong(t *testing.T, why string, text string, says string) {
	t.Helper()
	if got := impl.Console(text); got != says {
		t.Errorf("%s: %.200q, not %.200q", why, got, says)
	}
	s := standingBehind(text)
	if !s.isRight() || s.String() != standingBySecond(text) {
		t.Errorf("behind %s: %s", why, s)
	}
}

func standingBySecond(text string) string {
	_, s, _ := secondTalk(text)
	return s.String()
}

// textOfBytes is text with a note behind it, so many bytes in all; its last line has
// its end where it is so asked.
func textOfBytes(text string, n int, ended bool) string {
	text += "#"
	if ended {
		return text + strings.Repeat("x", n-len(text)-1) + "\n"
	}
	return text + strings.Repeat("x", n-len(text))
}

// P20, P21: MaxConsole bytes, and one more, the last line with its end and without.
func TestBytesOfText(t *testing.T) {
	some := "join 1 2\nset ж Я\nhears 1\n"
	for _, ended := range []bool{false, true} {
		for n := 3990; n < 4020; n++ {
			text := textOfBytes(some, n, ended)
			why := fmt.Sprint(n, " bytes, ended: ", ended)
			if len(text) != n {
				t.Fatal(why, len(text))
			}
			if n <= 4000 {
				checkNotLong(t, why, text, "ok\nok\n2\n")
			} else {
				checkLong(t, why, text)
			}
		}
		for _, n := range []int{5000, 8000, 65536, 1 << 20} {
			checkLong(t, fmt.Sprint(n, " bytes"), textOfBytes(some, n, ended))
		}
	}
}

// P20, P21: bytes count, not runes, whatever they are; those of line ends too.
func TestBytesOfManyKinds(t *testing.T) {
	for _, unit := range []string{"x", "ж", "漢", "\xff", "\x00", " ", "\t"} {
		for _, n := range []int{3999, 4000, 4001, 4002} {
			text := "#" + strings.Repeat(unit, (n-1)/len(unit))
			text += strings.Repeat("#", n-len(text))
			if n <= 4000 {
				checkNotLong(t, fmt.Sprintf("%d bytes of %q", n, unit), text, "")
			} else {
				checkLong(t, fmt.Sprintf("%d bytes of %q", n, unit), text)
			}
		}
	}
	// A hundred lines of forty bytes; one byte more at each end.
	line := "set a-234567890123 b-234567890123\n# 789\n"
	text := strings.Repeat(line, 100)[:4000]
	if len(line) != 40 || strings.Count(text, "\n") != 200 {
		t.Fatal(len(line), strings.Count(text, "\n"))
	}
	line = "set a-234567890123 b-23456789012345 678\n"
	text = strings.Repeat(line, 100)
	checkNotLong(t, "hundred lines", text, strings.Repeat("no\n", 100))
	checkLong(t, "hundred lines and an empty one", text+"\n")
	checkLong(t, "hundred lines and an empty one ahead", "\n"+text)
	checkLong(t, "hundred lines and a note", text+"#")
	checkNotLong(t, "hundred lines, the last not ended", text[:3999], strings.Repeat("no\n", 100))
	checkNotLong(t, "hundred lines, the last with a byte more", text[:3999]+"9", strings.Repeat("no\n", 100))
	checkLong(t, "hundred lines, the last with two bytes more", text[:3999]+"99")
}

// P20, P21: MaxConsoleLines lines, and one more, the last with its end and without;
// a last line end begins no line.
func TestLinesOfText(t *testing.T) {
	for line, says := range map[string]string{"": "", "#": "", "# note": "", "hears 1": "none\n", "x": "no\n", " ": "no\n", "law 1": "0\n", "\r": "no\n"} {
		for n := range 130 {
			text := strings.Repeat(line+"\n", n)
			if n <= 120 {
				checkNotLong(t, fmt.Sprintf("%d lines %q", n, line), text, strings.Repeat(says, n))
			} else {
				checkLong(t, fmt.Sprintf("%d lines %q", n, line), text)
			}
			// One more, without its end.
			why := fmt.Sprintf("%d lines %q and one without its end", n, line)
			for more, saysMore := range map[string]string{"#": "", "join 1 2": "ok\n", " ": "no\n"} {
				if n <= 119 {
					checkNotLong(t, why, text+more, strings.Repeat(says, n)+saysMore)
				} else {
					checkLong(t, why, text+more)
				}
			}
		}
	}
	// 120 that do something are all done.
	text, says := "", ""
	for i := range 120 {
		text += fmt.Sprintf("set a %d\n", i)
		says += "ok\n"
	}
	checkNotLong(t, "120 that set", text, says)
	checkLong(t, "121", text+"\n")
	checkLong(t, "121 with an empty one ahead", "\n"+text)
	checkNotLong(t, "120, the last without its end", strings.TrimSuffix(text, "\n"), says)
	if s := standingBehind(text); textOfSettings(s.settings) != `"a"="119"` {
		t.Error(s)
	}
}

// P20, P21: both limits at once, and each passed alone.
func TestBothLimitsOfText(t *testing.T) {
	lines := strings.Repeat("\n", 119)
	checkNotLong(t, "both met", lines+textOfBytes("", 4000-119, false), "")
	checkNotLong(t, "both met, ended", lines+textOfBytes("", 4000-119, true), "")
	checkLong(t, "a byte more", lines+textOfBytes("", 4001-119, false))
	checkLong(t, "a byte more, ended", lines+textOfBytes("", 4001-119, true))
	checkLong(t, "a line more", "\n"+lines+textOfBytes("", 3000, false))
	checkLong(t, "both passed", "\n"+lines+textOfBytes("", 4001-119, true))
	checkLong(t, "4001 line ends", strings.Repeat("\n", 4001))
	checkLong(t, "4000 line ends", strings.Repeat("\n", 4000))
	checkLong(t, "a million line ends", strings.Repeat("\n", 1000000))
	checkLong(t, "very many bytes", strings.Repeat("#", 1<<24))
	checkLong(t, "many lines that would be done", strings.Repeat("join 1 2\ndrop 1\n", 100))
	checkLong(t, "one line that begins well", "join 1 2\n"+strings.Repeat(" ", 4000))
}

// P20: what stands behind the last line end is a line where it is not empty.
func TestTextBehindTheLastLineEnd(t *testing.T) {
	for _, c := range []struct{ text, says string }{
		{"", ""}, {"\n", ""}, {"\n\n", ""}, {"join 1 2", "ok\n"}, {"join 1 2\n", "ok\n"}, {"join 1 2\n\n", "ok\n"}, {"\njoin 1 2", "ok\n"}, {"join 1 2\nhears 1", "ok\n2\n"}, {"join 1 2\n\nhears 1", "ok\n2\n"},
		{"join 1 2\n ", "ok\nno\n"}, {"join 1 2\nx", "ok\nno\n"}, {"join 1 2\n#", "ok\n"}, {"join 1 2\n# x\n", "ok\n"}, {"x", "no\n"}, {" ", "no\n"}, {"#", ""}, {"# x", ""}, {"\nx", "no\n"}, {"x\n\n", "no\n"},
		{"join 1 2\r\nhears 1\r\n", "no\nno\n"}, {"join 1 2\rhears 1", "no\n"}, {"join 1 2\n\rhears 1", "ok\nno\n"}, {"join 1 2\x00\n", "no\n"}, {"join 1 2\vhears 1", "no\n"}, {"join 1 2\u2028hears 1", "no\n"}, {"join 1 2\x85", "no\n"},
		{"join 1\n2", "no\nno\n"}, {"join\n1 2", "no\nno\n"}, {"join 1 2;hears 1", "no\n"}, {"\\n", "no\n"}, {"join 1 2\\nhears 1", "no\n"},
	} {
		checkNotLong(t, c.text, c.text, c.says)
	}
}

// P20: every text of few bytes.
func TestEveryShortConsole(t *testing.T) {
	for n := range 1 << 16 {
		text := string([]byte{byte(n), byte(n >> 8)})
		want := ""
		for _, line := range strings.Split(text, "\n") {
			if line != "" && line[0] != '#' {
				want += "no\n"
			}
		}
		if got := impl.Console(text); got != want {
			t.Errorf("%q: %q", text, got)
		}
	}
}
