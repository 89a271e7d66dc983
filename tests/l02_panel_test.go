package tests

import (
	"fmt"
	"math"
	"slices"
	"strings"
	"testing"
	"unicode"

	"loop.example/g00052/impl"
)

// The tests of lines write calls as text: each line is a letter (a is line 0,
// one letter per line on), a great letter is a leg that is Held, a call is the
// letters of its legs with * ahead when it is Parked, and a blank stands
// between calls: "abC *d" are a call of 0, 1 and 2 (Held), and a Parked one
// of 3 alone.

// lineLetters has a letter for each of the forty lines.
var lineLetters = []rune("abcdefghijklmnopqrstuvwxyzабвгдежзийклмн")

func lineOf(letter rune) int { return slices.Index(lineLetters, unicode.ToLower(letter)) }

func panelOf(lines int, calls string) impl.Panel {
	p := impl.Panel{Lines: lines}
	for _, word := range strings.Fields(calls) {
		letters, parked := strings.CutPrefix(word, "*")
		call := impl.Call{Parked: parked}
		for _, letter := range letters {
			call.Legs = append(call.Legs, impl.Leg{Line: lineOf(letter), Held: unicode.IsUpper(letter)})
		}
		p.Calls = append(p.Calls, call)
	}
	return p
}

// callsOf is the text of a panel's calls; it is made for panels whose lines
// all have a letter.
func callsOf(p impl.Panel) string {
	var words []string
	for _, call := range p.Calls {
		word := ""
		if call.Parked {
			word = "*"
		}
		for _, leg := range call.Legs {
			if leg.Line < 0 || leg.Line >= len(lineLetters) {
				return fmt.Sprint("no letter for ", leg.Line)
			}
			letter := lineLetters[leg.Line]
			if leg.Held {
				letter = unicode.ToUpper(letter)
			}
			word += string(letter)
		}
		words = append(words, word)
	}
	return strings.Join(words, " ")
}

// samePanel takes nil and empty lists as the same, as the document does.
func samePanel(a impl.Panel, b impl.Panel) bool {
	return a.Lines == b.Lines && slices.EqualFunc(a.Calls, b.Calls, func(x impl.Call, y impl.Call) bool {
		return x.Parked == y.Parked && slices.Equal(x.Legs, y.Legs)
	})
}

// wordsOfCalls are all texts of calls over exactly the lines of letters, in
// every order of calls and legs, Held and not, Parked and not.
func wordsOfCalls(letters string, visit func(calls string)) {
	var grow func(text string, left []rune)
	grow = func(text string, left []rune) {
		if len(left) == 0 {
			visit(text)
			return
		}
		for i, letter := range left {
			others := slices.Delete(slices.Clone(left), i, i+1)
			for _, leg := range []rune{letter, unicode.ToUpper(letter)} {
				for _, gap := range []string{"", " ", " *"} {
					if text == "" && gap == "" {
						continue
					}
					grow(text+gap+string(leg), others)
				}
			}
		}
	}
	grow("", []rune(letters))
}

// everyPanel visits each panel that is right and has so many lines.
func everyPanel(lines int, visit func(p impl.Panel)) {
	for set := range 1 << lines {
		letters := ""
		for line := range lines {
			if set>>line&1 == 1 {
				letters += string(lineLetters[line])
			}
		}
		wordsOfCalls(letters, func(calls string) {
			for _, word := range strings.Fields(calls) {
				if len(word) == 1 {
					return
				}
			}
			visit(panelOf(lines, calls))
		})
	}
}

func TestPanelConstants(t *testing.T) {
	got := []int{impl.MaxLines, impl.MaxParty, impl.MaxTick,
		impl.PanelJoin, impl.PanelDrop, impl.PanelHold, impl.PanelTake, impl.PanelPark, impl.PanelPick,
		impl.PanelDone, impl.PanelBad, impl.PanelSame, impl.PanelFull, impl.PanelNone}
	if !slices.Equal(got, []int{40, 8, 1000000000, 1, 2, 3, 4, 5, 6, 0, 1, 2, 3, 4}) {
		t.Error(got)
	}
}

// The notation itself, or all that rests on it would tell nothing.
func TestPanelNotation(t *testing.T) {
	p := panelOf(6, "abC *d")
	want := impl.Panel{Lines: 6, Calls: []impl.Call{
		{Legs: []impl.Leg{{Line: 0}, {Line: 1}, {Line: 2, Held: true}}},
		{Parked: true, Legs: []impl.Leg{{Line: 3}}},
	}}
	if !samePanel(p, want) || callsOf(p) != "abC *d" || len(lineLetters) != impl.MaxLines {
		t.Error(p, callsOf(p), len(lineLetters))
	}
	for line, letter := range lineLetters {
		if lineOf(letter) != line || lineOf(unicode.ToUpper(letter)) != line || unicode.ToUpper(letter) == letter {
			t.Error(line, letter)
		}
	}
	count := 0
	everyPanel(2, func(impl.Panel) { count++ })
	// None; *a or *A, b likewise; in one call: two orders, Held or not, Parked or not; in two: two orders, Held or not.
	if count != 1+2+2+16+8 {
		t.Error(count)
	}
}

func TestPanelOkOfRightPanels(t *testing.T) {
	for _, c := range []struct {
		lines int
		calls string
	}{
		{1, ""}, {2, ""}, {39, ""}, {40, ""},
		{1, "*a"}, {1, "*A"}, {2, "ab"}, {2, "ba"}, {2, "AB"}, {2, "*ab"}, {2, "*b *a"},
		{40, "нa"}, {40, "*н"}, {8, "abcdefgh"}, {8, "*hgfedcba"}, {16, "abcdefgh ijklmnop"},
		{6, "fa *b cDe"},
		{40, "abcdefgh ijklmnop qrstuvwx yzабвгде жзийклмн"},
		{40, "*a *b *c *d *e *f *g *h *i *j *k *l *m *n *o *p *q *r *s *t *u *v *w *x *y *z *а *б *в *г *д *е *ж *з *и *й *к *л *м *н"},
	} {
		if p := panelOf(c.lines, c.calls); !impl.PanelOk(p) {
			t.Error(c)
		}
	}
}

// wrongPanels has one wrong thing in each.
func wrongPanels() map[string]impl.Panel {
	wrong := map[string]impl.Panel{
		"no lines":                    panelOf(0, ""),
		"no lines, Calls empty":       {Calls: []impl.Call{}},
		"lines below 0":               panelOf(-1, ""),
		"lines far below 0":           panelOf(math.MinInt, ""),
		"a line more than there are":  panelOf(41, ""),
		"41 lines, one call":          panelOf(41, "ab"),
		"far too many lines":          panelOf(math.MaxInt, ""),
		"lines beyond 32 bits":        panelOf(1<<32+2, "ab"),
		"lines is no line":            panelOf(3, "abd"),
		"lines is no line, Parked":    panelOf(3, "*d"),
		"lines is no line, Held":      panelOf(3, "aD"),
		"the first leg is no line":    panelOf(3, "da"),
		"no line in the second call":  panelOf(4, "ab ce"),
		"two legs in one call":        panelOf(4, "aba"),
		"two legs side by side":       panelOf(4, "aa"),
		"two legs, one Held":          panelOf(4, "abA"),
		"two legs in a Parked call":   panelOf(4, "*aa"),
		"two legs in two calls":       panelOf(4, "ab cb"),
		"two legs, one Held, calls":   panelOf(4, "ab cB"),
		"two legs in Parked calls":    panelOf(4, "*a *a"),
		"two legs, one call Parked":   panelOf(4, "*a ab"),
		"two legs, two calls between": panelOf(6, "ab cd ef *a"),
		"one leg":                     panelOf(4, "a"),
		"one leg, Held":               panelOf(4, "A"),
		"one leg in the last call":    panelOf(4, "ab *d c"),
		"nine legs":                   panelOf(9, "abcdefghi"),
		"nine legs of forty":          panelOf(40, "abcdefghi"),
		"nine legs, Parked":           panelOf(40, "*abcdefghi"),
		"nine legs in the last call":  panelOf(40, "jk *l abcdefghi"),
		"no legs":                     {Lines: 4, Calls: []impl.Call{{}}},
		"no legs, Parked":             {Lines: 4, Calls: []impl.Call{{Parked: true}}},
		"no legs, empty":              {Lines: 4, Calls: []impl.Call{{Parked: true, Legs: []impl.Leg{}}}},
		"no legs behind a right call": {Lines: 4, Calls: append(panelOf(4, "ab").Calls, impl.Call{Parked: true})},
		"no legs ahead of one":        {Lines: 4, Calls: append([]impl.Call{{}}, panelOf(4, "ab").Calls...)},
	}
	for _, line := range []int{-1, -2, math.MinInt, math.MaxInt, 4, 5, 40, 1 << 32, 1<<32 + 1, -(1 << 32)} {
		wrong[fmt.Sprint("line ", line)] = impl.Panel{Lines: 4, Calls: []impl.Call{{Legs: []impl.Leg{{Line: 0}, {Line: line}}}}}
		wrong[fmt.Sprint("Parked line ", line)] = impl.Panel{Lines: 4, Calls: []impl.Call{{Parked: true, Legs: []impl.Leg{{Line: line, Held: true}}}}}
	}
	return wrong
}

func TestPanelOkOfWrongPanels(t *testing.T) {
	for name, p := range wrongPanels() {
		if impl.PanelOk(p) {
			t.Error(name, p)
		}
	}
	if impl.PanelOk(impl.Panel{}) {
		t.Error("the zero value")
	}
}

// rightByCounting says PanelOk again, from how often each line has a leg.
func rightByCounting(p impl.Panel) bool {
	if p.Lines < 1 || p.Lines > 40 {
		return false
	}
	count := map[int]int{}
	for _, call := range p.Calls {
		n := len(call.Legs)
		if n == 0 || n > 8 || n == 1 && !call.Parked {
			return false
		}
		for _, leg := range call.Legs {
			count[leg.Line]++
		}
	}
	for line, n := range count {
		if line < 0 || line >= p.Lines || n != 1 {
			return false
		}
	}
	return true
}

// All texts of up to four legs over three letters, of which the last is no
// line of two, right and wrong ones.
func TestPanelOkOfAllSmallPanels(t *testing.T) {
	right, wrong := 0, 0
	var grow func(text string, legs int)
	grow = func(text string, legs int) {
		for _, lines := range []int{2, 3} {
			p := panelOf(lines, text)
			want := rightByCounting(p)
			if impl.PanelOk(p) != want {
				t.Error(lines, text, "wanted", want)
			}
			if want {
				right++
			} else {
				wrong++
			}
		}
		if legs == 4 {
			return
		}
		for _, gap := range []string{"", " ", " *"} {
			if text == "" && gap == "" {
				continue
			}
			for _, leg := range []string{"a", "B", "c"} {
				grow(text+gap+leg, legs+1)
			}
		}
	}
	grow("", 0)
	if right < 50 || wrong < 1000 {
		t.Error("too few of a kind", right, wrong)
	}
}
