package tests

import (
	"fmt"
	"math"
	"slices"
	"strconv"
	"strings"
	"testing"

	"loop.example/g00052/impl"
)

// routeCase is a call, by its subs, and what becomes of it.
type routeCase struct {
	subs string
	from int
	to   int
	want string
	why  string
}

func checkRoutes(t *testing.T, cases []routeCase) {
	t.Helper()
	for _, c := range cases {
		if got := textOfOutcome(impl.Route7(subsOf(c.subs), c.from, c.to)); got != c.want {
			t.Errorf("%s: %s, %d to %d: %s, not %s", c.why, c.subs, c.from, c.to, got, c.want)
		}
	}
}

// P7: each code, without hops and with some.
func TestRouteCodes(t *testing.T) {
	checkRoutes(t, []routeCase{
		{"- -", 0, 1, "answer@1", "nothing is ordered"},
		{"- -", 1, 0, "answer@0", "and to the first"},
		{"- f2 -", 0, 1, "answer@2 1", "forwarded"},
		{"- Bw", 0, 1, "wait@1", "busy, and waits"},
		{"- f2 Bw", 0, 1, "wait@2 1", "forwarded to one that waits"},
		{"- B", 0, 1, "busy@1", "busy"},
		{"- f2 B", 0, 1, "busy@2 1", "forwarded to one that is busy"},
		{"- L", 0, 1, "late@1", "late"},
		{"- f2 L", 0, 1, "late@2 1", "forwarded to one that is late"},
		{"x -", 0, 1, "barred@0", "barred"},
		{"- - x", 2, 1, "barred@2", "barred, the last one"},
		{"- s0", 0, 1, "screened@1", "screened"},
		{"- f2 s0", 0, 1, "screened@2 1", "forwarded to one that screens"},
		{"- f0", 0, 1, "loop@0 1", "back to from"},
		{"- f1", 0, 1, "loop@1 1", "forwarded to itself"},
		{"- f2 f1", 0, 1, "loop@1 1 2", "back to the first it went over"},
		{"- f2 f3 f2", 0, 1, "loop@2 1 2 3", "back to another it went over"},
		{"- -", 0, 0, "bad@-1", "to itself"},
		{"- Bb2 -", 0, 1, "answer@2 1", "busy, and sends on"},
		{"- Ll2 -", 0, 1, "answer@2 1", "late, and sends on"},
		{"- Bb2 Ll3 f4 -", 0, 1, "answer@4 1 2 3", "sent on for three reasons"},
	})
}

// P7: what does not hold for a call plays no part in it.
func TestRoutePlaysNoPart(t *testing.T) {
	checkRoutes(t, []routeCase{
		{"- x", 0, 1, "answer@1", "who is barred may be called"},
		{"- p", 0, 1, "answer@1", "who is private may be called"},
		{"p -", 0, 1, "answer@1", "who is private may call who screens nobody"},
		{"- w", 0, 1, "answer@1", "waiting plays no part where none is busy"},
		{"- Lw", 0, 1, "late@1", "nor where one is late"},
		{"- b2 -", 0, 1, "answer@1", "nor does sending on when busy"},
		{"- Lb2 -", 0, 1, "late@1", "nor that where one is late"},
		{"- l2 -", 0, 1, "answer@1", "nor sending on when late"},
		{"- Bl2 -", 0, 1, "busy@1", "nor that where one is busy"},
		{"BLf2b2l2s1w - -", 0, 1, "answer@1", "how from itself is, and what it has"},
		{"s1 -", 0, 1, "answer@1", "from may call whom it screens"},
		{"- f2x -", 0, 1, "answer@2 1", "who is barred may forward"},
		{"- f2p s3 -", 0, 1, "answer@2 1", "one on the way is private, not from"},
		{"- f2 s1", 0, 1, "answer@2 1", "one on the way is screened, not from"},
		{"- - f0 BLf1w", 0, 1, "answer@1", "others play no part"},
	})
}

// P7: which of two reasons counts at a subscriber.
func TestRouteOrder(t *testing.T) {
	checkRoutes(t, []routeCase{
		{"xp s0", 0, 1, "barred@0", "a bar ahead of a screen"},
		{"x f0", 0, 1, "barred@0", "a bar ahead of a loop"},
		{"x BLf2b2l2s0w -", 0, 1, "barred@0", "a bar ahead of all"},
		{"x -", 0, 0, "bad@-1", "a wrong call ahead of a bar"},
		{"s0 f0", 0, 1, "loop@0 1", "a loop to from ahead of a screen"},
		{"- f2 s3f1 -", 0, 1, "loop@1 1 2", "a loop ahead of a forward"},
		{"ps1 f0", 0, 1, "loop@0 1", "a loop to from ahead of a private one's screen"},
		{"- f2 f3 f4 f5 f6 f7 s0", 0, 1, "loop@7 1 2 3 4 5 6", "too many hops ahead of a screen"},
		{"- s0f2 -", 0, 1, "screened@1", "a screen ahead of a forward"},
		{"- f2s0 -", 0, 1, "screened@1", "a screen ahead of a forward that stands first"},
		{"p f2s2 -", 0, 1, "screened@1", "a private one's screen ahead of a forward"},
		{"- s0f0", 0, 1, "screened@1", "a screen ahead of a forward that loops"},
		{"- Bs0w", 0, 1, "screened@1", "a screen ahead of busy"},
		{"- Ls0l2 -", 0, 1, "screened@1", "a screen ahead of late"},
		{"- Bf2 -", 0, 1, "answer@2 1", "a forward ahead of busy"},
		{"- Bwf2 -", 0, 1, "answer@2 1", "a forward ahead of waiting"},
		{"- Bb3f2 - -", 0, 1, "answer@2 1", "a forward ahead of sending on when busy"},
		{"- Lf2 -", 0, 1, "answer@2 1", "a forward ahead of late"},
		{"- Ll3f2 - -", 0, 1, "answer@2 1", "a forward ahead of sending on when late"},
		{"- Bwb2 -", 0, 1, "wait@1", "waiting ahead of sending on when busy"},
		{"- Bb2w -", 0, 1, "wait@1", "waiting ahead of it, though it stands behind"},
		{"- BLw", 0, 1, "wait@1", "waiting ahead of late"},
		{"- BLl2w -", 0, 1, "wait@1", "waiting ahead of sending on when late"},
		{"- BLb2 -", 0, 1, "answer@2 1", "sending on when busy ahead of late"},
		{"- BLl3b2 - -", 0, 1, "answer@2 1", "sending on when busy ahead of that when late"},
		{"- BL", 0, 1, "busy@1", "busy ahead of late"},
		{"- BLl2 -", 0, 1, "busy@1", "busy ahead of sending on when late"},
	})
}

// P7: whom a screen keeps out.
func TestRouteScreens(t *testing.T) {
	checkRoutes(t, []routeCase{
		{"- s0 -", 0, 1, "screened@1", "from is the one"},
		{"- s2 -", 0, 1, "answer@1", "another one is"},
		{"- s1 -", 0, 1, "answer@1", "it screens itself"},
		{"p s0 -", 0, 1, "screened@1", "from is the one, and private"},
		{"p s2 -", 0, 1, "screened@1", "any other, of one who is private"},
		{"p s1 -", 0, 1, "screened@1", "itself, of one who is private"},
		{"- s2s0 -", 0, 1, "screened@1", "the second of two"},
		{"- s0s2 -", 0, 1, "screened@1", "the first of two"},
		{"- s1s2 -", 0, 1, "answer@1", "neither of two"},
		{"p s1s2 -", 0, 1, "screened@1", "neither of two, of one who is private"},
		{"p ps2 -", 0, 1, "screened@1", "both are private"},
		{"- ps2 -", 0, 1, "answer@1", "only who screens is private"},
		{"- s2 p", 0, 1, "answer@1", "only who is screened is private"},
		{"- f2 s0", 0, 1, "screened@2 1", "from, not who sends on"},
		{"- f2 s1", 0, 1, "answer@2 1", "not who sends on"},
		{"p f2 s1", 0, 1, "screened@2 1", "any, of one who is private, on the way"},
		{"- pf2 s1", 0, 1, "answer@2 1", "who sends on is private, and plays no part"},
		{"- Bb2 s0", 0, 1, "screened@2 1", "behind sending on when busy"},
		{"- Ll2 s0", 0, 1, "screened@2 1", "behind sending on when late"},
	})
}

// chainText has subscriber 0 call over so many, one after the other, by each
// kind of sending on in turn; the one behind them is as the last word says.
func chainText(hops int, last string) string {
	words := []string{"-"}
	for at := 1; at <= hops; at++ {
		words = append(words, fmt.Sprintf([]string{"f%d", "Bb%d", "Ll%d"}[at%3], at+1))
	}
	return strings.Join(append(words, last), " ")
}

// P7, P21: a call goes over MaxHops, and over one more it comes to a loop.
func TestRouteHops(t *testing.T) {
	if impl.MaxHops != 5 || impl.MaxSubs != 16 {
		t.Fatal("limits", impl.MaxHops, impl.MaxSubs)
	}
	checkRoutes(t, []routeCase{
		{chainText(4, "-"), 0, 1, "answer@5 1 2 3 4", "one fewer"},
		{chainText(5, "-"), 0, 1, "answer@6 1 2 3 4 5", "MaxHops"},
		{chainText(6, "-"), 0, 1, "loop@7 1 2 3 4 5 6", "one more"},
		{chainText(7, "-"), 0, 1, "loop@7 1 2 3 4 5 6", "two more"},
		{chainText(14, "-"), 0, 1, "loop@7 1 2 3 4 5 6", "as many as there are"},
		{chainText(14, "-"), 0, 9, "loop@15 9 10 11 12 13 14", "one more, from further on"},
		{chainText(14, "-"), 0, 10, "answer@15 10 11 12 13 14", "MaxHops, from further on"},
		{chainText(5, "Bw"), 0, 1, "wait@6 1 2 3 4 5", "behind MaxHops each code: wait"},
		{chainText(5, "B"), 0, 1, "busy@6 1 2 3 4 5", "busy"},
		{chainText(5, "L"), 0, 1, "late@6 1 2 3 4 5", "late"},
		{chainText(5, "s0"), 0, 1, "screened@6 1 2 3 4 5", "screened"},
		{chainText(5, "f0"), 0, 1, "loop@0 1 2 3 4 5 6", "to from, behind one more"},
		{chainText(4, "f0"), 0, 1, "loop@0 1 2 3 4 5", "to from, behind MaxHops"},
		{chainText(4, "f3"), 0, 1, "loop@3 1 2 3 4 5", "to one of MaxHops"},
		{chainText(4, "f5"), 0, 1, "loop@5 1 2 3 4 5", "to itself, the last of MaxHops"},
		{chainText(5, "f6"), 0, 1, "loop@6 1 2 3 4 5 6", "to itself, one more"},
		{chainText(6, "B"), 0, 1, "loop@7 1 2 3 4 5 6", "one more, to one that is busy"},
		{chainText(6, "L"), 0, 1, "loop@7 1 2 3 4 5 6", "to one that is late"},
	})
}

// P7: what is no call.
func TestRouteBad(t *testing.T) {
	bad := impl.Outcome{Code: impl.OutBad, At: -1}
	for why, subs := range wrongSubs() {
		for from := -1; from <= 3; from++ {
			for to := -1; to <= 3; to++ {
				if got := impl.Route7(subs, from, to); got.Code != bad.Code || got.At != bad.At || len(got.Hops) > 0 {
					t.Errorf("%s: %v, %d to %d: %v", why, subs, from, to, got)
				}
			}
		}
	}
	for n := 1; n <= impl.MaxSubs; n++ {
		odd := []int{math.MinInt, -2, -1, n, n + 1, impl.MaxSubs, math.MaxInt}
		for _, who := range odd {
			for other := range n {
				for _, pair := range [][2]int{{who, other}, {other, who}, {who, who}, {other, other}} {
					if got := textOfOutcome(impl.Route7(plainSubs(n), pair[0], pair[1])); got != "bad@-1" {
						t.Errorf("%d subs, %v: %s", n, pair, got)
					}
				}
			}
		}
	}
	for _, text := range []string{"xp xp", "Bf1 f0", "s0 ps1"} {
		for who := range 2 {
			if got := textOfOutcome(impl.Route7(subsOf(text), who, who)); got != "bad@-1" {
				t.Errorf("%s, %d to itself: %s", text, who, got)
			}
		}
	}
}

// toldSub is a subscriber as its word tells it: a second telling of features
// goes by the letters alone.
type toldSub struct {
	busy  bool
	late  bool
	parts []string
}

func tellSubs(text string) []toldSub {
	var told []toldSub
	for _, word := range strings.Fields(text) {
		told = append(told, toldSub{strings.Contains(word, "B"), strings.Contains(word, "L"), featurePart.FindAllString(word, -1)})
	}
	return told
}

func (sub toldSub) find(letter string) (string, bool) {
	for _, part := range sub.parts {
		if part[:1] == letter {
			return part[1:], true
		}
	}
	return "", false
}

func (sub toldSub) has(letter string) bool {
	_, ok := sub.find(letter)
	return ok
}

// tellTurn says by a list of what is asked, in its order, what becomes of a
// call at a subscriber: how it ends, or by which letter it goes on.
func tellTurn(sub toldSub, from int, private bool, loop bool) string {
	screened := slices.Contains(sub.parts, "s"+strconv.Itoa(from))
	asked := []struct {
		holds bool
		turn  string
	}{
		{loop, "loop"},
		{screened && !private, "screened"},
		{sub.has("s") && private, "screened"},
		{sub.has("f"), "f"},
		{sub.busy && sub.has("w"), "wait"},
		{sub.busy && sub.has("b"), "b"},
		{sub.busy, "busy"},
		{sub.late && sub.has("l"), "l"},
		{sub.late, "late"},
	}
	for _, row := range asked {
		if row.holds {
			return row.turn
		}
	}
	return "answer"
}

// tellRoute says what becomes of a call that is right.
func tellRoute(subs []toldSub, from int, to int) string {
	if subs[from].has("x") {
		return fmt.Sprintf("barred@%d", from)
	}
	over := ""
	for at, n := to, 0; ; n++ {
		gone := fmt.Sprintf(" %d%s ", from, over)
		loop := n > 5 || strings.Contains(gone, fmt.Sprintf(" %d ", at))
		turn := tellTurn(subs[at], from, subs[from].has("p"), loop)
		if len(turn) > 1 {
			return fmt.Sprintf("%s@%d%s", turn, at, over)
		}
		over += " " + strconv.Itoa(at)
		rest, _ := subs[at].find(turn)
		mustScan(rest, "%d", &at)
	}
}

// everyWord visits a subscriber with each choice of flags and features, of
// which some name one of so many.
func everyWord(n int, visit func(word string)) {
	choices := [][]string{{"", "B"}, {"", "L"}, {""}, {""}, {""}, {"", "x"}, {"", "w"}, {"", "p"}}
	for other := range n {
		for i, letter := range []string{"f", "b", "l"} {
			choices[2+i] = append(choices[2+i], fmt.Sprintf("%s%d", letter, other))
		}
		choices = append(choices, []string{"", fmt.Sprintf("s%d", other)})
	}
	var grow func(word string, i int)
	grow = func(word string, i int) {
		if i == len(choices) {
			visit(word)
			return
		}
		for _, choice := range choices[i] {
			grow(word+choice, i+1)
		}
	}
	grow("", 0)
}

// P7: all that one of three subscribers may have.
func TestRouteOfEveryWord(t *testing.T) {
	everyWord(3, func(word string) {
		for _, form := range []string{"- %s -", "p %s -", "- %s Bs0b1", "p %s Ll1"} {
			text := fmt.Sprintf(form, "-"+word)
			subs, told := subsOf(text), tellSubs(text)
			for _, pair := range [][2]int{{0, 1}, {1, 0}, {0, 2}} {
				got, want := textOfOutcome(impl.Route7(subs, pair[0], pair[1])), tellRoute(told, pair[0], pair[1])
				if got != want {
					t.Fatalf("%s, %v: %s, not %s", text, pair, got, want)
				}
			}
		}
	})
}

// drawSubs draws so many subs; each feature is there as often as some in ten.
func drawSubs(d *drawn, n int, often int) []impl.Sub {
	subs := plainSubs(n)
	for i := range subs {
		sub := &subs[i]
		sub.Busy, sub.Late = d.below(3) == 0, d.below(3) == 0
		add := func(kind int, other int) {
			if d.below(10) < often {
				place := d.below(len(sub.Features) + 1)
				sub.Features = slices.Insert(sub.Features, place, impl.Feature{Kind: kind, Other: other})
			}
		}
		for _, kind := range []int{impl.FeatForward, impl.FeatBusyTo, impl.FeatLateTo} {
			add(kind, d.below(n))
		}
		add(impl.FeatWait, 0)
		add(impl.FeatPrivate, 0)
		if d.below(4) == 0 {
			add(impl.FeatBar, 0)
		}
		for other := range n {
			if d.below(n) == 0 {
				add(impl.FeatScreen, other)
			}
		}
	}
	return subs
}

// everyCall visits all calls among so many.
func everyCall(n int, visit func(from int, to int)) {
	for from := range n {
		for to := range n {
			if from != to {
				visit(from, to)
			}
		}
	}
}

// P7: drawn subs, few and many, that have little and much.
func TestRouteOfDrawnSubs(t *testing.T) {
	d := drawn(7)
	seen := map[string]int{}
	for round := range 1500 {
		subs := drawSubs(&d, 2+round%15, 1+round%8)
		text := textOfSubs(subs)
		told := tellSubs(text)
		if !impl.SubsOk(subs) {
			t.Fatalf("%s: not ok", text)
		}
		everyCall(len(subs), func(from int, to int) {
			got := impl.Route7(subs, from, to)
			if want := tellRoute(told, from, to); textOfOutcome(got) != want {
				t.Fatalf("%s, %d to %d: %s, not %s", text, from, to, textOfOutcome(got), want)
			}
			seen[fmt.Sprintf("%d over %d", got.Code, len(got.Hops))]++
		})
	}
	for code := impl.OutAnswer; code <= impl.OutScreened; code++ {
		for hops := range impl.MaxHops + 1 {
			if seen[fmt.Sprintf("%d over %d", code, hops)] == 0 && (code != impl.OutBarred || hops == 0) {
				t.Errorf("no call with code %d over %d was drawn", code, hops)
			}
		}
	}
}

// keptOut asks whether a subscriber screens a caller.
func keptOut(sub impl.Sub, from int, private bool) bool {
	return slices.ContainsFunc(sub.Features, func(feature impl.Feature) bool {
		return feature.Kind == impl.FeatScreen && (private || feature.Other == from)
	})
}

func hasKind(sub impl.Sub, kind int) bool {
	return slices.ContainsFunc(sub.Features, func(feature impl.Feature) bool { return feature.Kind == kind })
}

// P7: calls go over few, each once, and who is screened never gets through.
func TestRoutesKeep(t *testing.T) {
	d := drawn(77)
	for round := range 3000 {
		subs := drawSubs(&d, 2+round%15, 2+round%7)
		everyCall(len(subs), func(from int, to int) {
			out := impl.Route7(subs, from, to)
			gone := slices.Sorted(slices.Values(out.Hops))
			if len(gone) > 6 || len(slices.Compact(gone)) != len(out.Hops) || slices.Contains(gone, from) {
				t.Fatalf("%s, %d to %d goes over %v", textOfSubs(subs), from, to, out.Hops)
			}
			if len(out.Hops) > 5 && out.Code != impl.OutLoop {
				t.Fatalf("%s, %d to %d goes over %v, and no loop", textOfSubs(subs), from, to, out.Hops)
			}
			private := hasKind(subs[from], impl.FeatPrivate)
			for _, hop := range out.Hops {
				if keptOut(subs[hop], from, private) {
					t.Fatalf("%s, %d to %d goes over %d", textOfSubs(subs), from, to, hop)
				}
			}
			through := out.Code >= impl.OutAnswer && out.Code <= impl.OutLate
			if through && (out.At == from || keptOut(subs[out.At], from, private)) {
				t.Fatalf("%s, %d to %d gets through: %v", textOfSubs(subs), from, to, out)
			}
		})
	}
}
