package tests

import (
	"strings"
	"testing"
	"unsafe"

	"loop.example/g00052/impl"
)

// consoleTexts fill each layer, are refused, say nothing or are too long.
func consoleTexts() []string {
	texts := []string{
		"", "\n", "# note\n", "x\n", linesOf(wordsAhead), linesOf(wordsAhead) + "hears 1\ndial 12\nget a\ntone C 9\nlaw 7\n",
		linesOf(ruleLines(60)), linesOf(setLines(40)), linesOf(waitingLines(40)), strings.Repeat("\n", 121), strings.Repeat("#", 4001), strings.Repeat("#", 4000),
		"set жук Ю-2\nget жук\nset abcdefghijklmnop ABCDEFGHIJKLMNOP\nget abcdefghijklmnop\n", "rule 12 3-4 7 2 00\ndial 1234\nrule * 1-2 0 0 #\ndial *",
		"join 1 2\njoin 3 4\njoin 5 6\njoin 1 7\njoin 3 8\npark 5\nhold 1\n", "path 0 0\npath 1 5\npath 15 15\nfree 1\n", "join 1 2\nset a 1\nx\nset a",
	}
	r := drawn(2051)
	for range 12 {
		texts = append(texts, drawTalk20(&r, 60))
	}
	return texts
}

// textOver is a text that stands on bytes that can be written into.
func textOver(b []byte) string {
	if len(b) == 0 {
		return ""
	}
	return unsafe.String(&b[0], len(b))
}

func copyOfStanding(s standing) standing {
	return standing{copyOfPanel(s.panel), append([]impl.Rule{}, s.rules...), copyOfFabric(s.fabric), copyOfDesk(s.desk), copyOfSettings(s.settings)}
}

// scribbleStanding writes into all that a standing reaches.
func scribbleStanding(s standing) {
	scribblePanel(s.panel)
	scribble(s.rules, impl.Rule{Prefix: "77", Least: -7})
	scribble(s.fabric.Paths, impl.Path{From: -7, To: -7, Mid: -7})
	scribbleDesk(s.desk)
	scribble(s.settings, impl.Setting{Name: "q", Value: "q"})
}

// P20: no text is written into, nor kept in what is answered, though its bytes change
// behind the call.
func TestConsoleTextIsLeft(t *testing.T) {
	for _, text := range consoleTexts() {
		want, wantBehind := impl.Console(text), standingBehind(text).String()
		b := []byte(text)
		g := guard('\n', b)
		over := textOver(g.list)
		said, behind := impl.Console(over), standingBehind(over)
		if said != want || behind.String() != wantBehind || !g.untouched() {
			t.Errorf("%.200q: written into, or another answer", text)
		}
		scribble(g.whole, 'z')
		if said != want || behind.String() != wantBehind {
			t.Errorf("%.200q: the text is kept in the answer", text)
		}
	}
}

// P20: no answer shares memory with another one, nor any two lists of one.
func TestConsoleAnswersApart(t *testing.T) {
	for _, text := range consoleTexts() {
		first, second := standingBehind(text), standingBehind(text)
		want := second.String()
		kept := copyOfStanding(first)
		if !listsApart(first.panel) {
			t.Errorf("behind %.200q: two lists share", text)
		}
		scribble(first.desk.Agents, impl.Agent{Skills: -7})
		if first.desk.Now != kept.desk.Now || len(first.desk.Queue) != len(kept.desk.Queue) || !sameFabric(first.fabric, kept.fabric) || textOfSettings(first.settings) != textOfSettings(kept.settings) {
			t.Errorf("behind %.200q: two lists share", text)
		}
		scribbleStanding(first)
		if second.String() != want || standingBehind(text).String() != want || kept.String() != want {
			t.Errorf("behind %.200q: two answers share", text)
		}
	}
}

// P20: the texts of an answer lie at places of their own.
func TestConsoleTextsApart(t *testing.T) {
	textsOf := func(s standing) []string {
		var list []string
		for _, rule := range s.rules {
			list = append(list, rule.Prefix, rule.Add)
		}
		for _, setting := range s.settings {
			list = append(list, setting.Name, setting.Value)
		}
		return list
	}
	for _, text := range consoleTexts() {
		text := madeText(text)
		first, second := textsOf(standingBehind(text)), textsOf(standingBehind(text))
		// The text of what is too long is a constant, which nobody has for their own.
		if said := impl.Console(text); said != "long\n" {
			first, second = append(first, said), append(second, impl.Console(text))
		}
		for _, one := range first {
			for _, other := range append(second, text) {
				if textsShare(one, other) {
					t.Fatalf("%.200q: %q shares", text, one)
				}
			}
		}
	}
}

// P20: an exchange is that of one call: nothing is kept from one to another, nor
// among several at once.
func TestConsoleKeepsNothing(t *testing.T) {
	texts := consoleTexts()
	tell := func(r *drawn) string {
		told := ""
		for _, text := range texts {
			told += impl.Console(text) + standingBehind(text).String()
			other := drawTalk20(r, r.below(50))
			impl.Console(other)
			scribbleStanding(standingBehind(other))
			impl.Console(texts[r.below(len(texts))])
			scribbleStanding(standingBehind(texts[r.below(len(texts))]))
		}
		return told
	}
	checkToldAlike(t, 2053, tell)
}

// P20: the same lines in two calls are not one behind the other.
func TestConsoleBeginsAnew(t *testing.T) {
	for range 3 {
		for _, c := range []struct{ text, says string }{
			{"join 1 2\n", "ok\n"}, {"hears 1\n", "none\n"}, {"rule 1 1-1 0 0 -\n", "ok\n"}, {"dial 1\n", "no\n"}, {"path 0 0\n", "ok 0\n"}, {"free 0\n", "no\n"},
			{"call 1 1 0 9\n", "ok 1\n"}, {"end 0 9\n", "no\n"}, {"call 2 4 0 0\n", "ok\n"}, {"gone 2 9\n", "no\n"}, {"set a 1\n", "ok\n"}, {"get a\n", "no\n"}, {"unset a\n", "no\n"},
			{strings.Repeat("\n", 121), "long\n"}, {strings.Repeat("\n", 120), ""}, {strings.Repeat("x", 4001), "long\n"}, {strings.Repeat("x", 4000), "no\n"},
		} {
			if got := impl.Console(c.text); got != c.says {
				t.Errorf("%.200q: %q", c.text, got)
			}
		}
		if s := standingBehind(""); s.parts() != firstParts {
			t.Error(s)
		}
	}
}
