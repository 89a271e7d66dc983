package tests

import (
	"fmt"
	"maps"
	"slices"
	"strings"
	"testing"

	"loop.example/g00052/impl"
)

// memorySettings are such and lists that are none, sorted by why.
func memorySettings() [][]impl.Setting {
	list := [][]impl.Setting{nil, {}, settingsOf("a=1"), settingsOf("a=1 b=on c=x"), settingsOf("A=1 ж=Я"), manySettings(39), manySettings(40)}
	wrong := wrongSettings()
	for _, why := range slices.Sorted(maps.Keys(wrong)) {
		if len(wrong[why]) < 100 {
			list = append(list, wrong[why])
		}
	}
	return list
}

// memoryTexts are texts of commands that make room, fill it and put things back,
// that can be done and can't.
func memoryTexts() []string {
	return []string{
		"", "set a 2\n", "unset a\n", "set 0 1\n", "set A 1\nset zz 2\nset b 3\n", "begin\nset a 5\nset B 6\nunset a\nabort\n", "begin\nset a 5\nunset a\nset B 6\ncommit\n",
		"begin\nbegin\nset a 5\ncommit\nset b 2\nabort\nset a 9\n", "set a 1\nunset zz\n", "begin\n", "x", "need a 1\n", "unset a\nset zz 1\nbegin\nunset zz\nabort\n",
		strings.Repeat("set a 1\n", 376), "set b100 7\nunset b101\nset a 1\n",
	}
}

// markedSettings would stand right behind some lists, or make them none, were
// they read.
var markedSettings = []impl.Setting{{Name: "zz", Value: "1"}, {}, {Name: "a", Value: "7"}}

// A settingsAnswer is what a call answers: settings, and a text beside them.
type settingsAnswer struct {
	list []impl.Setting
	text string
	rest string
}

func (a settingsAnswer) String() string {
	return textOfSettings(a.list) + "; " + a.text + "; " + a.rest
}

// texts are all that an answer holds.
func (a settingsAnswer) texts() []string {
	texts := []string{a.text}
	for _, setting := range a.list {
		texts = append(texts, setting.Name, setting.Value)
	}
	return texts
}

// settingsCalls take a list and a text that is no constant.
func settingsCalls() map[string]func(list []impl.Setting, text string) settingsAnswer {
	calls := map[string]func(list []impl.Setting, text string) settingsAnswer{
		"SettingsOk": func(list []impl.Setting, _ string) settingsAnswer {
			return settingsAnswer{rest: fmt.Sprint(impl.SettingsOk(list))}
		},
		"Configure": func(list []impl.Setting, text string) settingsAnswer {
			configured, line := impl.Configure(list, text)
			return settingsAnswer{list: configured, rest: fmt.Sprint(line)}
		},
		"Diff19": func(list []impl.Setting, text string) settingsAnswer {
			return settingsAnswer{text: impl.Diff19(list, settingsOf("a=2 zz=1"))}
		},
		"Diff19 back": func(list []impl.Setting, text string) settingsAnswer {
			return settingsAnswer{text: impl.Diff19(settingsOf("a=2 zz=1"), list)}
		},
		"Diff19 of one list": func(list []impl.Setting, text string) settingsAnswer {
			return settingsAnswer{text: impl.Diff19(list, list)}
		},
	}
	for _, name := range []string{"a", "zz", "b100", "b139", ""} {
		calls["Find19 "+name] = func(list []impl.Setting, text string) settingsAnswer {
			value, ok := impl.Find19(list, name)
			return settingsAnswer{text: value, rest: fmt.Sprint(ok)}
		}
	}
	return calls
}

// P19: no call writes into settings or behind them, reads what lies there, or
// answers what shares memory with them or with another answer.
func TestSettingsMemory(t *testing.T) {
	calls := settingsCalls()
	for _, name := range slices.Sorted(maps.Keys(calls)) {
		call := calls[name]
		for _, list := range memorySettings() {
			// Only Configure takes a text.
			for _, text := range memoryTexts() {
				want := call(copyOfSettings(list), text).String()
				for _, mark := range markedSettings {
					g := guard(mark, list)
					first, second := call(g.list, text), call(g.list, text)
					if first.String() != want || !g.untouched() {
						t.Errorf("%s of %.1000s by %.80q: written into, or another answer", name, textOfSettings(list), text)
					}
					scribble(first.list, impl.Setting{Name: "q", Value: "q"})
					if second.String() != want || call(g.list, text).String() != want || !g.untouched() {
						t.Errorf("%s of %.1000s by %.80q: shared", name, textOfSettings(list), text)
					}
					scribble(g.whole, impl.Setting{Name: "r", Value: "r"})
					if second.String() != want {
						t.Errorf("%s of %.1000s by %.80q: an argument is handed out", name, textOfSettings(list), text)
					}
				}
				if name != "Configure" {
					break
				}
			}
		}
	}
}

// P19: no spare room of an answer holds what it was made of.
func TestSpareRoomOfSettings(t *testing.T) {
	for _, list := range memorySettings() {
		for _, text := range memoryTexts() {
			got, _ := impl.Configure(list, text)
			for _, setting := range got[len(got):cap(got)] {
				if setting != (impl.Setting{}) {
					t.Errorf("%.1000s by %.80q: %v lies behind", textOfSettings(list), text, setting)
				}
			}
		}
	}
}

// P19: the texts of an answer lie at places of their own, whether they come from
// the list or from the text.
func TestTextsOfSettingsApart(t *testing.T) {
	calls := settingsCalls()
	for _, name := range slices.Sorted(maps.Keys(calls)) {
		for _, list := range memorySettings() {
			for _, text := range memoryTexts() {
				list, text := copyOfSettings(list), madeText(text)
				first, second := calls[name](list, text), calls[name](list, text)
				handed := append(settingsAnswer{list: list}.texts(), text)
				for _, one := range first.texts() {
					for _, other := range append(second.texts(), handed...) {
						if textsShare(one, other) {
							t.Fatalf("%s of %.1000s by %.80q: %q shares", name, textOfSettings(list), text, one)
						}
					}
				}
				if name != "Configure" {
					break
				}
			}
		}
	}
}

// P19: what Upper tells lies at a place of its own, also where it is the word.
func TestTextsOfUpperApart(t *testing.T) {
	for _, s := range []string{"a", "A", "Ж", "abc", "ABC-9", "ЖУК-7", "ς", "ABCDEFGHIJKLMNOP", strings.Repeat("Я", 16)} {
		word := madeText(s)
		first, second := impl.Upper(word), impl.Upper(word)
		if first == "" || textsShare(first, word) || textsShare(first, second) || word != s {
			t.Errorf("upper %q: %q shares", s, first)
		}
	}
}

// P19: what was answered may be handed in again, and stays as it was.
func TestSettingsHandedInAgain(t *testing.T) {
	r := drawn(1909)
	var all [][]impl.Setting
	var told []string
	var list []impl.Setting
	for range 300 {
		next, line := impl.Configure(list, drawCommand(&r)+drawCommand(&r))
		if line == 0 {
			list = next
		}
		all = append(all, next)
		told = append(told, textOfSettings(next))
		refused, _ := impl.Configure(next, "x\n")
		scribble(refused, impl.Setting{})
		aborted, _ := impl.Configure(next, "begin\nset a 7\nunset a\nabort\n")
		scribble(aborted, impl.Setting{})
	}
	for i := range all {
		if textOfSettings(all[i]) != told[i] {
			t.Error("other settings behind other calls", i, textOfSettings(all[i]), told[i])
		}
	}
}

// P19: no call plays a part in what another one answers, nor do several at once,
// those that can't be done among them.
func TestSettingsKeepNothing(t *testing.T) {
	calls := settingsCalls()
	names := slices.Sorted(maps.Keys(calls))
	lists, texts := memorySettings(), memoryTexts()
	tell := func(r *drawn) string {
		told := ""
		for i, list := range lists {
			for _, name := range names {
				told += calls[name](list, texts[i%len(texts)]).String() + impl.Upper("жук"+fmt.Sprint(i)) + "\n"
				calls[names[r.below(len(names))]](drawSettings(r, 9), texts[r.below(len(texts))])
				calls[names[r.below(len(names))]](lists[r.below(len(lists))], texts[r.below(len(texts))])
				impl.Upper(drawWord(r, 20))
			}
		}
		return told
	}
	checkToldAlike(t, 1911, tell)
}
