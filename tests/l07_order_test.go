package tests

import (
	"math"
	"slices"
	"strings"
	"testing"

	"loop.example/g00052/impl"
)

// kindsOf has a letter for each kind, and ? for a number that is none.
func kindsOf(letters string) []int {
	var kinds []int
	for _, letter := range letters {
		kinds = append(kinds, strings.IndexRune(featLetters, letter))
	}
	return kinds
}

// P7: features in the order of their kinds.
func TestOrder7(t *testing.T) {
	cases := []struct {
		subs  string
		kinds string
		want  string
		why   string
	}{
		{"- f2b0 -", "bf", "- b0f2 -", "two kinds"},
		{"- f2b0 -", "fb", "- f2b0 -", "two kinds that stand so"},
		{"- f2b0 -", "", "- f2b0 -", "no kinds"},
		{"- f2b0 -", "b", "- b0f2 -", "a kind that stands there is ahead"},
		{"- f2b0 -", "f", "- f2b0 -", "a kind that is ahead already"},
		{"- f2b0 -", "pxwb", "- b0f2 -", "kinds that nobody has"},
		{"- f2b0 -", "lxs", "- f2b0 -", "only kinds that nobody has"},
		{"- f2b0 -", "bfb", "- b0f2 -", "a kind twice counts where it stands first"},
		{"- f2b0 -", "fbf", "- f2b0 -", "and the other one"},
		{"- f2b0w -", "wbfbw", "- wb0f2 -", "and two of them"},
		{"- f2b0 -", "?b?", "- b0f2 -", "numbers that are no kind"},
		{"- f2b0 -", "??", "- f2b0 -", "only such numbers"},
		{"- s2f0s0s1 -", "s", "- s2s0s1f0 -", "screens stay in their order"},
		{"- s2f0s0s1 -", "fs", "- f0s2s0s1 -", "screens behind another"},
		{"- s2f0s0s1 -", "f", "- f0s2s0s1 -", "screens that do not stand there"},
		{"- pxws1l2b0f2 -", "f", "- f2pxws1l2b0 -", "others stay in their order"},
		{"- pxws1l2b0f2 -", "lf", "- l2f2pxws1b0 -", "others behind two"},
		{"pxf1 BLws1 Lb2l0", "lswbpfx", "pf1x BLs1w Ll0b2", "each subscriber has its own"},
		{"f0b0l0xs0wp", "pwsxlbf", "pws0xl0b0f0", "all kinds, from behind"},
		{"f0b0l0xs0wp", "fblxswp", "f0b0l0xs0wp", "all kinds, as they are"},
		{"- B L BL", "fb", "- B L BL", "those without features"},
	}
	for _, c := range cases {
		if got := textOfSubs(impl.Order7(subsOf(c.subs), kindsOf(c.kinds))); got != c.want {
			t.Errorf("%s: %s by %q: %s, not %s", c.why, c.subs, c.kinds, got, c.want)
		}
	}
}

// P7: numbers that are no kind play no part, however many there are.
func TestOrder7OddKinds(t *testing.T) {
	odd := []int{math.MinInt, -1, 0, 8, 99, math.MaxInt}
	kinds := slices.Concat(odd, []int{impl.FeatWait}, odd, []int{impl.FeatBusyTo}, slices.Repeat(odd, 1000))
	if got := textOfSubs(impl.Order7(subsOf("f1b0w f0wb1"), kinds)); got != "wb0f1 wb1f0" {
		t.Error(got)
	}
	if got := textOfSubs(impl.Order7(subsOf("f1b0w f0wb1"), odd)); got != "f1b0w f0wb1" {
		t.Error(got)
	}
}

func TestOrder7OfWrongSubs(t *testing.T) {
	for why, subs := range wrongSubs() {
		for _, kinds := range []string{"", "bf", "pwsxlbf"} {
			if got := impl.Order7(subs, kindsOf(kinds)); len(got) > 0 {
				t.Errorf("%s: %v by %s: %v", why, subs, kinds, got)
			}
		}
	}
}

// tellOrder takes the features of a kind out, kind by kind, then the rest.
func tellOrder(features []impl.Feature, kinds []int) []impl.Feature {
	var ordered []impl.Feature
	for i, kind := range kinds {
		for _, feature := range features {
			if feature.Kind == kind && !slices.Contains(kinds[:i], kind) {
				ordered = append(ordered, feature)
			}
		}
	}
	for _, feature := range features {
		if !slices.Contains(kinds, feature.Kind) {
			ordered = append(ordered, feature)
		}
	}
	return ordered
}

func drawKinds(d *drawn) []int {
	kinds := make([]int, d.below(10))
	for i := range kinds {
		kinds[i] = d.below(10) - 1
	}
	return kinds
}

// P7: drawn subs by drawn kinds.
func TestOrder7OfDrawnSubs(t *testing.T) {
	d := drawn(27)
	for round := range 3000 {
		subs := drawSubs(&d, 1+round%16, 2+round%8)
		kinds := drawKinds(&d)
		want := copyOfSubs(subs)
		for i := range want {
			want[i].Features = tellOrder(want[i].Features, kinds)
		}
		if got := impl.Order7(subs, kinds); !sameSubs(got, want) {
			t.Fatalf("%s by %v: %s, not %s", textOfSubs(subs), kinds, textOfSubs(got), textOfSubs(want))
		}
	}
}

// turnedSubs has the features of each in an order that is drawn.
func turnedSubs(d *drawn, subs []impl.Sub) []impl.Sub {
	turned := copyOfSubs(subs)
	for _, sub := range turned {
		for i := range sub.Features {
			j := d.below(i + 1)
			sub.Features[i], sub.Features[j] = sub.Features[j], sub.Features[i]
		}
	}
	return turned
}

// P7: the most features that one may have, so many of a kind that only an
// order that stays leaves the screens as they are.
func TestOrder7OfFullSubs(t *testing.T) {
	d := drawn(47)
	for range 300 {
		subs := append(plainSubs(impl.MaxSubs-1), subsOf(everyScreen(impl.MaxSubs, "f0b1l2xwp"))...)
		subs = turnedSubs(&d, subs)
		kinds := drawKinds(&d)
		want := tellOrder(subs[impl.MaxSubs-1].Features, kinds)
		if got := impl.Order7(subs, kinds); !slices.Equal(got[impl.MaxSubs-1].Features, want) {
			t.Fatalf("%s by %v: %v, not %v", textOfSubs(subs), kinds, got[impl.MaxSubs-1].Features, want)
		}
	}
}

// P7: the order of features plays no part.
func TestOrderPlaysNoPart(t *testing.T) {
	d := drawn(37)
	for round := range 400 {
		subs := drawSubs(&d, 2+round%15, 2+round%7)
		clashes := len(impl.Clashes(subs))
		for _, other := range [][]impl.Sub{impl.Order7(subs, drawKinds(&d)), turnedSubs(&d, subs)} {
			everyCall(len(subs), func(from int, to int) {
				got, want := textOfOutcome(impl.Route7(other, from, to)), textOfOutcome(impl.Route7(subs, from, to))
				if got != want {
					t.Fatalf("%s, %d to %d: %s, but %s: %s", textOfSubs(subs), from, to, want, textOfSubs(other), got)
				}
			})
			if got := len(impl.Clashes(other)); got != clashes {
				t.Fatalf("%s has %d clashes, %s has %d", textOfSubs(subs), clashes, textOfSubs(other), got)
			}
		}
	}
}
