package tests

import (
	"fmt"
	"regexp"
	"strconv"
	"strings"
	"testing"

	"loop.example/g00052/impl"
)

// A secondConsole tells a text by forms of whole lines, and by the functions of
// the layers below.
type secondConsole struct{ standing }

func newSecondConsole() *secondConsole {
	return &secondConsole{standing{panelOf(40, ""), nil, fabricOf(firstParts[fabricPart]), deskOf(firstParts[deskPart]), nil}}
}

const decimalForm = `(0|[1-9][0-9]{0,6})`

// A consoleRow is a row of the table: the whole line, and what it does, given the
// words of the line.
type consoleRow struct {
	form *regexp.Regexp
	do   func(s *secondConsole, words []string) (string, bool)
}

// rowFor has N for a decimal, Z for one that may be below 0, and W for a word.
func rowFor(form string, do func(s *secondConsole, words []string) (string, bool)) consoleRow {
	form = strings.NewReplacer("N", decimalForm, "Z", `(0|-?[1-9][0-9]{0,6})`, "W", `([^ ]+)`).Replace(form)
	return consoleRow{regexp.MustCompile(`(?s)\A` + form + `\z`), do}
}

func wholeOf(word string) int {
	n, err := strconv.Atoi(word)
	if err != nil {
		panic(err)
	}
	return n
}

func panelRow(form string, kind int) consoleRow {
	return rowFor(form, func(s *secondConsole, words []string) (string, bool) {
		op := impl.PanelOp{Kind: kind, A: wholeOf(words[1])}
		if kind == impl.PanelJoin {
			op.B = wholeOf(words[2])
		}
		p, codes := impl.RunPanel(s.panel, []impl.PanelOp{op})
		s.panel = p
		return "ok", codes[0] == impl.PanelDone
	})
}

func deskRow(form string, kind int) consoleRow {
	return rowFor(form, func(s *secondConsole, words []string) (string, bool) {
		op := impl.DeskOp{Kind: kind, Who: wholeOf(words[1]), Tick: wholeOf(words[len(words)-1])}
		if kind == impl.DeskCall {
			op.Skill, op.Priority = wholeOf(words[2]), wholeOf(words[3])
		}
		d, given, codes := impl.RunDesk(s.desk, []impl.DeskOp{op})
		s.desk = d
		said := "ok"
		for _, call := range given {
			said += fmt.Sprint(" ", call)
		}
		return said, codes[0] == impl.DeskDone
	})
}

func configureRow(form string) consoleRow {
	return rowFor(form, func(s *secondConsole, words []string) (string, bool) {
		list, line := impl.Configure(s.settings, strings.Join(words, " ")+"\n")
		s.settings = list
		return "ok", line == 0
	})
}

var consoleRows = []consoleRow{
	panelRow(`join N N`, impl.PanelJoin),
	panelRow(`drop N`, impl.PanelDrop),
	panelRow(`hold N`, impl.PanelHold),
	panelRow(`take N`, impl.PanelTake),
	panelRow(`park N`, impl.PanelPark),
	panelRow(`pick N`, impl.PanelPick),
	rowFor(`hears N`, func(s *secondConsole, words []string) (string, bool) {
		heard := strings.Trim(fmt.Sprint(impl.Heard(s.panel, wholeOf(words[1]))), "[]")
		if heard == "" {
			heard = "none"
		}
		return heard, true
	}),
	rowFor(`rule W W W W W`, func(s *secondConsole, words []string) (string, bool) {
		rules, line := impl.ReadRules(impl.ShowRules(s.rules) + strings.Join(words[1:], " ") + "\n")
		if line == 0 {
			s.rules = rules
		}
		return "ok", line == 0
	}),
	rowFor(`dial W`, func(s *secondConsole, words []string) (string, bool) {
		d := impl.Dial(s.rules, words[1])
		name := map[int]string{impl.DialMore: "more", impl.DialMay: "may", impl.DialDone: "done"}[d.Code]
		switch {
		case name == "" || name == "more":
			return name, name != ""
		case d.Number == "":
			return fmt.Sprintf("%s %d -", name, d.Route), true
		}
		return fmt.Sprintf("%s %d %s", name, d.Route, d.Number), true
	}),
	rowFor(`path N N`, func(s *secondConsole, words []string) (string, bool) {
		f, moves, code := impl.Connect(s.fabric, wholeOf(words[1]), wholeOf(words[2]))
		if code != impl.FabDone {
			return "", false
		}
		s.fabric = f
		return fmt.Sprintf("ok %d", len(moves)), true
	}),
	rowFor(`free N`, func(s *secondConsole, words []string) (string, bool) {
		f, code := impl.Release(s.fabric, wholeOf(words[1]))
		if code != impl.FabDone {
			return "", false
		}
		s.fabric = f
		return "ok", true
	}),
	deskRow(`call N N N N`, impl.DeskCall),
	deskRow(`end N N`, impl.DeskEnd),
	deskRow(`gone N N`, impl.DeskGone),
	rowFor(`law Z`, func(s *secondConsole, words []string) (string, bool) {
		level := wholeOf(words[1])
		return fmt.Sprint(impl.ToLaw(level)), level >= -32767 && level <= 32767
	}),
	rowFor(`unlaw N`, func(s *secondConsole, words []string) (string, bool) {
		b := wholeOf(words[1])
		return fmt.Sprint(impl.FromLaw(b)), b <= 255
	}),
	rowFor(`tone ([0-9A-D*#]) N`, func(s *secondConsole, words []string) (string, bool) {
		levels, ok := impl.Tone13(strings.Index("123A456B789C*0#D", words[1]), 1000, wholeOf(words[2]), 256)
		digits, _ := impl.Digits13(levels)
		if digits == "" {
			digits = "none"
		}
		return digits, ok
	}),
	configureRow(`set W W`),
	configureRow(`unset W`),
	rowFor(`get W`, func(s *secondConsole, words []string) (string, bool) {
		value, has := mapOfSettings(s.settings)[words[1]]
		return value, has
	}),
	rowFor(`block N N N`, func(s *secondConsole, words []string) (string, bool) {
		part, ok := impl.Blocking(wholeOf(words[1]), wholeOf(words[2]), wholeOf(words[3]))
		return fmt.Sprintf("%d/%d", part.Num, part.Den), ok
	}),
}

func (s *secondConsole) tell(line string) string {
	if line == "" || line[0] == '#' {
		return ""
	}
	for _, row := range consoleRows {
		if row.form.MatchString(line) {
			if said, ok := row.do(s, strings.Split(line, " ")); ok {
				return said + "\n"
			}
		}
	}
	return "no\n"
}

// secondTalk tells what each line of a text says, and how all stands behind it;
// false when the text is too long.
func secondTalk(text string) ([]string, standing, bool) {
	lines := strings.Split(text, "\n")
	if lines[len(lines)-1] == "" {
		lines = lines[:len(lines)-1]
	}
	if len(text) > 4000 || len(lines) > 120 {
		return nil, standing{}, false
	}
	s := newSecondConsole()
	var said []string
	for _, line := range lines {
		said = append(said, s.tell(line))
	}
	return said, s.standing, true
}

// checkSecondConsole holds a text against the second telling; it answers what is
// said.
func checkSecondConsole(t *testing.T, text string) string {
	t.Helper()
	said, want, ok := secondTalk(text)
	if !ok {
		said = []string{"long\n"}
	}
	got := impl.Console(text)
	if got != strings.Join(said, "") {
		t.Errorf("%.4200q: %q, not %q", text, got, said)
	}
	behind := standingBehind(text)
	if behind.String() != want.String() || ok && !behind.isRight() {
		t.Errorf("behind %.4200q: %s, not %s", text, behind, want)
	}
	return got
}

// drawLine draws lines of the table with few numbers, so that many can be done.
func drawLine(r *drawn, tick *int) string {
	*tick += r.below(3)
	name := []string{"a", "b", "ж", "Z-1", "x.9"}[r.below(5)]
	line := func() string { return fmt.Sprint(r.below(12)) }
	port := func() string { return fmt.Sprint(r.below(17)) }
	switch r.below(24) {
	case 0, 1, 2:
		return "join " + line() + " " + line()
	case 3:
		return []string{"drop ", "park "}[r.below(2)] + line()
	case 4:
		return []string{"hold ", "take "}[r.below(2)] + line()
	case 5:
		return "pick " + line()
	case 6:
		return "hears " + line()
	case 7, 8:
		least := 1 + r.below(3)
		return fmt.Sprintf("rule %s %d-%d %d %d %s", "1"+drawDigits(r, "12", 2), least, least+r.below(3), r.below(4), r.below(3), []string{"-", "0", "00"}[r.below(3)])
	case 9, 10:
		return "dial 1" + drawDigits(r, "123", 5)
	case 11, 12, 13:
		return "path " + port() + " " + port()
	case 14:
		return "free " + port()
	case 15, 16:
		return fmt.Sprintf("call %d %d %d %d", r.below(30), 1<<r.below(3), r.below(3), *tick)
	case 17:
		return fmt.Sprintf("%s %d %d", []string{"end", "end", "gone"}[r.below(3)], r.below(4), *tick)
	case 18:
		return fmt.Sprintf("law %d", r.below(70000)-35000)
	case 19:
		return fmt.Sprintf("unlaw %d", r.below(300))
	case 20:
		return fmt.Sprintf("tone %c %d", "123A456B789C*0#DEx"[r.below(18)], r.below(300))
	case 21:
		return "set " + name + " " + []string{"1", "on", "Ю"}[r.below(3)]
	case 22:
		return []string{"unset ", "get ", "get "}[r.below(3)] + name
	}
	return fmt.Sprintf("block %d %d %d", r.below(10), r.below(23), r.below(12))
}

// drawWrongLine changes a byte or two of a line, or tells something else.
func drawWrongLine(r *drawn, line string) string {
	at := r.below(len(line) + 1)
	const bytes = " -+#0129nA\t\r\xd0"
	switch r.below(6) {
	case 0:
		return line[:at] + bytes[r.below(len(bytes)):][:1] + line[at:]
	case 1:
		return line[:at] + line[min(at+1, len(line)):]
	case 2:
		return line[:at]
	case 3:
		return "# " + line
	case 4:
		return ""
	}
	return line + " " + line[at:]
}

func drawTalk20(r *drawn, lines int) string {
	text, tick := "", 0
	for range lines {
		line := drawLine(r, &tick)
		if r.below(8) == 0 {
			line = drawWrongLine(r, line)
		}
		text += line + "\n"
	}
	if r.below(4) == 0 {
		text = strings.TrimSuffix(text, "\n")
	}
	return text
}

// P20: drawn texts of all lengths, against the second telling.
func TestDrawnConsoles(t *testing.T) {
	r := drawn(2001)
	seen := map[string]int{}
	for i := range 1500 {
		said := checkSecondConsole(t, drawTalk20(&r, i%125))
		for line := range strings.Lines(said) {
			seen[strings.Fields(line)[0]]++
		}
	}
	for _, word := range []string{"ok", "no", "none", "more", "may", "done", "long"} {
		if seen[word] < 10 {
			t.Errorf("%s was said %d times only", word, seen[word])
		}
	}
}

// P20: a text says first what its beginning says: that of each line, whatever
// stands behind it, refused lines too.
func TestBeginningsOfConsoles(t *testing.T) {
	r := drawn(2002)
	for range 60 {
		text := drawTalk20(&r, 40)
		said, _, ok := secondTalk(text)
		if !ok {
			continue
		}
		want, begins := "", ""
		for i, line := range strings.SplitAfter(text, "\n")[:len(said)] {
			begins += line
			want += said[i]
			if got := impl.Console(begins); got != want || !strings.HasPrefix(impl.Console(text), got) {
				t.Errorf("%q: %q, not %q", begins, got, want)
			}
			if got := impl.Console(strings.TrimSuffix(begins, "\n")); got != want {
				t.Errorf("%q without its line end: %q, not %q", begins, got, want)
			}
			if s := standingBehind(begins); !s.isRight() {
				t.Errorf("behind %q: not right: %s", begins, s)
			}
		}
	}
}

// P20: two texts one behind the other say what each says, where the first one
// leaves all as it was.
func TestConsolesOneBehindTheOther(t *testing.T) {
	r := drawn(2003)
	quiet := "hears 1\ndial 1\njoin 3 3\nlaw 9\nunlaw 9\ntone 1 1\nget a\nblock 1 1 1\nset a b c\nfree 1\nend 0 0\n"
	for range 200 {
		text := drawTalk20(&r, 30)
		if got := impl.Console(quiet + text); got != impl.Console(quiet)+impl.Console(text) {
			t.Errorf("%q: %q", text, got)
		}
		if got := standingBehind(quiet + text); got.String() != standingBehind(text).String() {
			t.Errorf("behind %q: %s", text, got)
		}
	}
}
