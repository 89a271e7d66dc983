package tests

import (
	"fmt"
	"slices"
	"strings"
	"testing"

	"loop.example/g00052/impl"
)

// P20: behind a line that says no all stands as ahead of it, behind drawn texts too.
func TestBehindRefusedLines(t *testing.T) {
	r := drawn(2041)
	refused := 0
	for range 400 {
		text := drawTalk20(&r, r.below(60))
		if !strings.HasSuffix(text, "\n") && text != "" {
			text += "\n"
		}
		before, says := standingBehind(text), impl.Console(text)
		tick := 0
		for range 8 {
			line := drawWrongLine(&r, drawLine(&r, &tick))
			said, cut := strings.CutPrefix(impl.Console(text+line), says)
			if !cut {
				t.Errorf("%q behind %q: another beginning", line, text)
			}
			if behind := standingBehind(text + line); said == "no\n" {
				refused++
				if behind.String() != before.String() {
					t.Errorf("%q behind %q: %s, not %s", line, text, behind, before)
				}
			}
		}
	}
	if refused < 1000 {
		t.Error("too few refused", refused)
	}
}

// P20: lines that only ask change nothing, whatever they say.
func TestBehindLinesThatAsk(t *testing.T) {
	r := drawn(2042)
	for range 200 {
		text := drawTalk20(&r, r.below(60))
		if !strings.HasSuffix(text, "\n") && text != "" {
			text += "\n"
		}
		want := standingBehind(text).String()
		for _, line := range []string{"hears 1", "hears 99", "dial 1", "dial 12", "dial x", "law -7", "law 99999", "unlaw 7", "unlaw 300", "tone A 5", "tone A 300", "get a", "get ж", "block 3 5 7", "block 3 5 0", "", "# x"} {
			if got := standingBehind(text + line + "\n").String(); got != want {
				t.Errorf("%q behind %q: %s, not %s", line, text, got, want)
			}
		}
	}
}

// P20: paths whose making moves others; the moves that are told are those that are
// seen behind the line.
func TestPathLinesThatMove(t *testing.T) {
	r := drawn(2043)
	told := map[int]int{}
	for range 400 {
		text := ""
		for range 60 {
			line := fmt.Sprintf("path %d %d\n", r.below(16), r.below(16))
			if r.below(3) == 0 {
				line = fmt.Sprintf("free %d\n", r.below(16))
			}
			before, says := standingBehind(text).fabric, impl.Console(text)
			text += line
			said := strings.TrimPrefix(impl.Console(text), says)
			moves := 0
			if strings.HasPrefix(line, "path") && said != "no\n" {
				mustScan(said, "ok %d\n", &moves)
				told[moves]++
			}
			behind, moved := standingBehind(text).fabric, 0
			for i, p := range before.Paths {
				if len(behind.Paths) > i && behind.Paths[i].From == p.From && behind.Paths[i].Mid != p.Mid {
					moved++
				}
			}
			if strings.HasPrefix(line, "path") && moved != moves {
				t.Errorf("%q: %d moves, not %d", text, moved, moves)
			}
			if !impl.FabricOk(behind) {
				t.Errorf("behind %q: %s", text, textOfFabric(behind))
			}
		}
		checkSecondConsole(t, text)
	}
	for moves := range 4 {
		if told[moves] == 0 {
			t.Error("never told:", moves, told)
		}
	}
}

// P20: every inlet and every outlet finds a path, in whatever order.
func TestFullFabricOfTheConsole(t *testing.T) {
	r := drawn(2044)
	for range 100 {
		text, to := "", []int{0, 1, 2, 3, 4, 5, 6, 7, 8, 9, 10, 11, 12, 13, 14, 15}
		from := slices.Clone(to)
		for i := range to {
			j, k := i+r.below(16-i), i+r.below(16-i)
			to[i], to[j] = to[j], to[i]
			from[i], from[k] = from[k], from[i]
			text += fmt.Sprintf("path %d %d\n", from[i], to[i])
		}
		if got := checkSecondConsole(t, text); strings.Contains(got, "no") || len(standingBehind(text).fabric.Paths) != 16 {
			t.Errorf("%q: %q", text, got)
		}
	}
}

// P20, P21: as much as may be of each layer, and one more.
func TestFullLayersOfTheConsole(t *testing.T) {
	var join []string
	for line := range 40 {
		if line%8 != 0 {
			join = append(join, fmt.Sprintf("join %d %d", line/8*8, line))
		}
	}
	calls := waitingLines(40) + "; call 1 1 0 3; call 2 2 0 3; call 3 1 0 3"
	for name, lines := range map[string]string{
		"lines and rules":       strings.Join(join, "; ") + "; " + ruleLines(60),
		"settings and callers":  setLines(40) + "; " + calls,
		"rules and settings":    ruleLines(60) + "; " + setLines(40),
		"callers and rules":     calls + "; " + ruleLines(60),
		"lines and then others": strings.Join(join, "; ") + "; " + setLines(40) + "; " + calls,
	} {
		text := linesOf(lines)
		if got := impl.Console(text); strings.Contains(got, "no\n") || strings.Contains(got, "long") {
			t.Errorf("%s: %q", name, got)
		}
		s := standingBehind(text)
		if !s.isRight() {
			t.Errorf("%s: not right: %s", name, s)
		}
		for _, line := range []string{"join 0 8", "rule 1 1-1 0 0 -", "call 9 4 0 3", "set a 1"} {
			// Each is refused where its layer is full, and where it is not it is done.
			full := map[string]bool{"join": len(s.panel.Calls) == 5, "rule": len(s.rules) == 60, "call": len(s.desk.Queue) == 40, "set": len(s.settings) == 40}[strings.Fields(line)[0]]
			want := map[bool]string{true: "no\n", false: "ok\n"}[full]
			if got := strings.TrimPrefix(impl.Console(text+line), impl.Console(text)); got != want {
				t.Errorf("%s, then %s: %q", name, line, got)
			}
		}
	}
}

// P20: what is done behind a text goes on from how all stands there: by the functions
// of the layers as by the console.
func TestBehindGoesOn(t *testing.T) {
	r := drawn(2045)
	for range 300 {
		text := drawTalk20(&r, r.below(50))
		if !strings.HasSuffix(text, "\n") && text != "" {
			text += "\n"
		}
		s := standingBehind(text)
		op := impl.PanelOp{Kind: impl.PanelJoin, A: r.below(12), B: r.below(12)}
		s.panel, _ = impl.DoPanel(s.panel, op)
		from, to := r.below(16), r.below(16)
		s.fabric, _, _ = impl.Connect(s.fabric, from, to)
		call := impl.DeskOp{Kind: impl.DeskCall, Tick: s.desk.Now + 1, Who: r.below(40), Skill: 1}
		s.desk, _, _ = impl.DoDesk(s.desk, call)
		s.settings, _ = impl.Configure(s.settings, "set a 77\n")
		text += fmt.Sprintf("join %d %d\npath %d %d\ncall %d 1 0 %d\nset a 77\n", op.A, op.B, from, to, call.Who, call.Tick)
		if got := standingBehind(text); got.String() != s.String() {
			t.Errorf("behind %q: %s, not %s", text, got, s)
		}
	}
}
