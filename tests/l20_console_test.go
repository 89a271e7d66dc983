package tests

import (
	"fmt"
	"slices"
	"strings"
	"testing"

	"loop.example/g00052/impl"
)

// The tests of the console write lines with "; " between them; where what they
// say is told too, it stands behind ": ": "join 1 2: ok; hears 1: 2; # note" are
// three lines, the last of which says nothing.

// consoleTalk is the text of such lines, and what it says.
func consoleTalk(talk string) (string, string) {
	text, says := "", ""
	for _, part := range strings.Split(talk, "; ") {
		line, answer, answers := strings.Cut(part, ": ")
		text += line + "\n"
		if answers {
			says += answer + "\n"
		}
	}
	return text, says
}

// standing is how all stands behind a text.
type standing struct {
	panel    impl.Panel
	rules    []impl.Rule
	fabric   impl.Fabric
	desk     impl.Desk
	settings []impl.Setting
}

// The parts of a standing.
const (
	panelPart = iota
	rulesPart
	fabricPart
	deskPart
	settingsPart
	partCount
)

func standingBehind(text string) standing {
	var s standing
	s.panel, s.rules, s.fabric, s.desk, s.settings = impl.Behind(text)
	return s
}

// parts are the texts of each part, in the notations of its layer; rules are told
// by their lines with "; " between them.
func (s standing) parts() [partCount]string {
	panel := callsOf(s.panel)
	if s.panel.Lines != 40 {
		panel = fmt.Sprintf("%d lines: %v", s.panel.Lines, s.panel.Calls)
	}
	var rules []string
	for _, rule := range s.rules {
		add := rule.Add
		if add == "" {
			add = "-"
		}
		rules = append(rules, fmt.Sprintf("%s %d-%d %d %d %s", rule.Prefix, rule.Least, rule.Most, rule.Route, rule.Strip, add))
	}
	return [partCount]string{panel, strings.Join(rules, "; "), textOfFabric(s.fabric), textOfDesk(s.desk), textOfSettings(s.settings)}
}

func (s standing) String() string {
	parts := s.parts()
	return strings.Join(parts[:], " / ")
}

func (s standing) isRight() bool {
	return impl.PanelOk(s.panel) && impl.RulesOk(s.rules) && impl.FabricOk(s.fabric) && impl.DeskOk(s.desk) && impl.SettingsOk(s.settings)
}

// firstParts are those of the beginning.
var firstParts = [partCount]string{"", "", "4.4.4", "0 0: 1@0 2@0 3@0 |", ""}

// checkTalk holds what all lines of a talk say against what is written there, and
// looks whether each beginning of it says the beginning and leaves all right.
func checkTalk(t *testing.T, talk string) {
	t.Helper()
	text, says := consoleTalk(talk)
	if got := impl.Console(text); got != says {
		t.Errorf("%q: %q, not %q", text, got, says)
	}
	parts := strings.Split(talk, "; ")
	for n := range parts {
		begins := ""
		if n > 0 {
			begins = strings.Join(parts[:n], "; ")
		}
		checkBeginning(t, begins)
	}
}

func checkBeginning(t *testing.T, talk string) {
	t.Helper()
	text, says := "", ""
	if talk != "" {
		text, says = consoleTalk(talk)
	}
	for _, same := range []string{text, strings.TrimSuffix(text, "\n")} {
		// Without its line end an empty line is none, which says as much.
		if got := impl.Console(same); got != says {
			t.Errorf("the beginning %q: %q, not %q", same, got, says)
		}
		if s := standingBehind(same); !s.isRight() {
			t.Errorf("behind the beginning %q: not right: %s", same, s)
		}
	}
}

func TestConsoleConstants(t *testing.T) {
	if impl.MaxConsole != 4000 || impl.MaxConsoleLines != 120 {
		t.Error(impl.MaxConsole, impl.MaxConsoleLines)
	}
}

// The notation itself, or all that rests on it would tell nothing.
func TestConsoleNotation(t *testing.T) {
	text, says := consoleTalk("join 1 2: ok; ; hears 1: 2; # note; drop 9: no")
	if text != "join 1 2\n\nhears 1\n# note\ndrop 9\n" || says != "ok\n2\nno\n" {
		t.Errorf("%q %q", text, says)
	}
	s := standing{panelOf(40, "ab"), rulesOf("12 3-4 7 2 00; 1 1-2 0 0 -"), fabricOf("4.4.4 0-1/0"), deskOf("3 1: 1=5@1 | 6/1!2@3"), settingsOf("a=1")}
	want := `ab / 12 3-4 7 2 00; 1 1-2 0 0 - / 4.4.4 0-1/0 / 3 1: 1=5@1 | 6/1!2@3 / "a"="1"`
	if s.String() != want {
		t.Error(s.String())
	}
	if (standing{}).isRight() || !strings.HasPrefix((standing{}).String(), "0 lines") {
		t.Error(standing{}.String())
	}
}

// P20: how all stands at first, field by field.
func TestConsoleBegins(t *testing.T) {
	for _, text := range []string{"", "\n", "\n\n\n", "#", "# note", "# note\n", "no\n", "hears 1\n", " \n"} {
		s := standingBehind(text)
		if s.parts() != firstParts || !s.isRight() {
			t.Errorf("behind %q: %s", text, s)
		}
		if s.panel.Lines != impl.MaxLines || len(s.panel.Calls) != 0 || len(s.rules) != 0 || len(s.settings) != 0 {
			t.Errorf("behind %q: %s", text, s)
		}
		if s.fabric.Sides != 4 || s.fabric.Ports != 4 || s.fabric.Mid != 4 || len(s.fabric.Paths) != 0 {
			t.Errorf("behind %q: %v", text, s.fabric)
		}
		agents := []impl.Agent{{Skills: 1, Busy: -1}, {Skills: 2, Busy: -1}, {Skills: 3, Busy: -1}}
		if s.desk.Now != 0 || s.desk.Given != 0 || len(s.desk.Queue) != 0 || !slices.Equal(s.desk.Agents, agents) {
			t.Errorf("behind %q: %v", text, s.desk)
		}
	}
}

// P20: known talks, over several layers at once.
func TestKnownConsoles(t *testing.T) {
	for _, talk := range []string{
		"join 1 2: ok",
		"join 1 2: ok; join 3 1: ok; hears 1: 2 3; hears 3: 1 2; hears 4: none",
		"join 0 39: ok; hears 0: 39; hears 39: 0; drop 0: ok; hears 39: none; drop 39: no",
		"join 5 3: ok; join 5 9: ok; join 5 1: ok; hears 3: 1 5 9; hold 9: ok; hears 3: 1 5; hears 9: none; take 9: ok; hears 9: 1 3 5",
		"join 1 2: ok; join 1 3: ok; park 3: ok; hears 1: none; pick 4: ok; hears 4: 1 2; hears 3: none; pick 3: no",
		"rule 1 3-5 7 1 00: ok; rule 112 3-3 0 0 -: ok; dial 1: more; dial 11: more; dial 112: done 0 112; dial 123: may 7 0023; dial 12345: done 7 002345; dial 123456: no; dial 2: no; dial 1a: no",
		"dial 1: no; rule 1 1-1 5 1 -: ok; dial 1: done 5 -; rule 1 1-1 5 1 -: no; dial 1: done 5 -",
		"path 0 0: ok 0; path 0 1: no; path 1 0: no; free 0: ok; free 0: no; path 0 0: ok 0; path 16 1: no; free 16: no",
		"call 5 1 0 1: ok 5; call 6 2 0 2: ok 6; call 7 3 0 2: no; call 7 1 0 3: ok 7; call 8 1 0 4: ok; call 9 1 3 4: ok; end 0 5: ok 9; gone 9 5: no; gone 8 6: ok; end 0 6: ok; end 0 7: no",
		"law 0: 0; law 1000: 47; law -1000: 175; law 32767: 127; law -32767: 255; unlaw 0: 8; unlaw 47: 1008; unlaw 128: -8; unlaw 175: -1008; unlaw 127: 32256; unlaw 255: -32256",
		"tone 1 0: 1; tone D 255: D; tone # 9: #; tone * 9: *; tone a 9: no; tone 1 256: no",
		"set a 1: ok; get a: 1; set a on: ok; get a: on; get b: no; unset b: no; unset a: ok; get a: no",
		"set жук Ю-2: ok; get жук: Ю-2; get ЖУК: no; need жук Ю-2: no; begin: no; unset жук: ok; abort: no; get жук: no",
		"block 0 3 2: 1/1; block 1 3 2: 3/5; block 2 3 2: 9/29; block 1 0 1: 0/1; block 9 3 2: no; block 1 3 0: no",
		"# all at once; join 1 2: ok; set a 1: ok; ; call 5 1 0 1: ok 5; path 3 4: ok 0; rule 9 1-2 3 0 -: ok; hears 2: 1; get a: 1; end 0 1: ok; free 3: ok; dial 9: may 3 9; join 1 2: no; nothing: no",
	} {
		checkTalk(t, talk)
	}
}
