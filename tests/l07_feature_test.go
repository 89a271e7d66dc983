package tests

import (
	"fmt"
	"math"
	"regexp"
	"slices"
	"strconv"
	"strings"
	"testing"

	"loop.example/g00052/impl"
)

// The tests of features write subs as text, a word a subscriber: B busy,
// L late, then its features in their order: f2 forward to 2, b2 and l2 the
// same when it is busy and when it is late, x barred, s2 screens 2, w waits,
// p private. "- Bwb2 f0" is one with nothing, one that is busy, waits and
// would send on to 2 when it is busy, and one that sends all on to 0.
// An outcome is its code, its place and its hops, "loop@1 1 2 3"; a clash its
// subscriber, both places, from and to: "1:0+2 0>3".

const featLetters = "?fblxswp"

var outNames = []string{"?", "answer", "wait", "busy", "late", "barred", "screened", "loop", "bad"}

var featurePart = regexp.MustCompile("[a-z]-?[0-9]*")

func featureOf(part string) impl.Feature {
	feature := impl.Feature{Kind: strings.IndexByte(featLetters, part[0])}
	if len(part) > 1 {
		mustScan(part[1:], "%d", &feature.Other)
	}
	return feature
}

func featuresOf(text string) []impl.Feature {
	var features []impl.Feature
	for _, part := range featurePart.FindAllString(text, -1) {
		features = append(features, featureOf(part))
	}
	return features
}

func subsOf(text string) []impl.Sub {
	var subs []impl.Sub
	for _, word := range strings.Fields(text) {
		subs = append(subs, impl.Sub{Busy: strings.Contains(word, "B"), Late: strings.Contains(word, "L"), Features: featuresOf(word)})
	}
	return subs
}

func textOfSub(sub impl.Sub) string {
	word := ""
	if sub.Busy {
		word += "B"
	}
	if sub.Late {
		word += "L"
	}
	for _, feature := range sub.Features {
		word += featLetters[feature.Kind : feature.Kind+1]
		if !slices.Contains([]int{impl.FeatBar, impl.FeatWait, impl.FeatPrivate}, feature.Kind) {
			word += strconv.Itoa(feature.Other)
		}
	}
	if word == "" {
		return "-"
	}
	return word
}

// textOfSubs is for those that are right.
func textOfSubs(subs []impl.Sub) string {
	var words []string
	for _, sub := range subs {
		words = append(words, textOfSub(sub))
	}
	return strings.Join(words, " ")
}

func textOfOutcome(out impl.Outcome) string {
	if out.Code < 0 || out.Code >= len(outNames) {
		return fmt.Sprint(out)
	}
	text := fmt.Sprintf("%s@%d", outNames[out.Code], out.At)
	for _, hop := range out.Hops {
		text += fmt.Sprintf(" %d", hop)
	}
	return text
}

func textOfClashes(clashes []impl.Clash) string {
	var parts []string
	for _, c := range clashes {
		parts = append(parts, fmt.Sprintf("%d:%d+%d %d>%d", c.Sub, c.First, c.Second, c.From, c.To))
	}
	return strings.Join(parts, ", ")
}

func sameSubs(a []impl.Sub, b []impl.Sub) bool {
	return slices.EqualFunc(a, b, func(x impl.Sub, y impl.Sub) bool {
		return x.Busy == y.Busy && x.Late == y.Late && slices.Equal(x.Features, y.Features)
	})
}

func copyOfSubs(subs []impl.Sub) []impl.Sub {
	list := slices.Clone(subs)
	for i := range list {
		list[i].Features = slices.Clone(list[i].Features)
	}
	return list
}

// plainSubs have ordered nothing.
func plainSubs(n int) []impl.Sub { return make([]impl.Sub, n) }

// everyScreen has a screen for each of so many, in front of a text.
func everyScreen(n int, behind string) string {
	text := ""
	for other := range n {
		text += fmt.Sprintf("s%d", other)
	}
	return text + behind
}

func oddFeature(kind int, other int) []impl.Sub {
	subs := subsOf("- f2 -")
	subs[1].Features = append(subs[1].Features, impl.Feature{Kind: kind, Other: other})
	return subs
}

// wrongSubs have one fault each, by what it is. A call from 0 to 1 would come
// to something in most of them, and subscriber 1 would have a clash in some.
func wrongSubs() map[string][]impl.Sub {
	return map[string][]impl.Sub{
		"none":                       nil,
		"an empty list":              {},
		"one too many":               plainSubs(impl.MaxSubs + 1),
		"far too many":               plainSubs(1000),
		"kind 0":                     oddFeature(0, 0),
		"kind 8":                     oddFeature(8, 0),
		"kind 8 with an Other":       oddFeature(8, 1),
		"kind below 0":               oddFeature(-1, 0),
		"kind far below":             oddFeature(math.MinInt, 0),
		"kind far away":              oddFeature(math.MaxInt, 0),
		"busy to -1":                 oddFeature(impl.FeatBusyTo, -1),
		"busy to one behind":         oddFeature(impl.FeatBusyTo, 3),
		"busy to far away":           oddFeature(impl.FeatBusyTo, math.MaxInt),
		"late to -1":                 oddFeature(impl.FeatLateTo, -1),
		"late to one behind":         oddFeature(impl.FeatLateTo, 3),
		"screen of -1":               oddFeature(impl.FeatScreen, -1),
		"screen of one behind":       oddFeature(impl.FeatScreen, 3),
		"screen of far below":        oddFeature(impl.FeatScreen, math.MinInt),
		"forward to -1":              subsOf("- f-1 -"),
		"forward to one behind":      subsOf("- f3 -"),
		"forward to MaxSubs":         subsOf("- f16 -"),
		"forward to one behind two":  subsOf("- f2"),
		"bar with 1":                 oddFeature(impl.FeatBar, 1),
		"bar with -1":                oddFeature(impl.FeatBar, -1),
		"wait with 1":                oddFeature(impl.FeatWait, 1),
		"wait with -1":               oddFeature(impl.FeatWait, -1),
		"private with 1":             oddFeature(impl.FeatPrivate, 1),
		"private with -1":            oddFeature(impl.FeatPrivate, -1),
		"forward twice":              subsOf("- f2f2 -"),
		"forward to two":             subsOf("- Bf2b0f0 -"),
		"busy to two":                subsOf("- Bb2b0 -"),
		"busy twice":                 subsOf("- Bb2wb2 -"),
		"late to two":                subsOf("- Ll2l0 -"),
		"late twice":                 subsOf("- Ll2xl2 -"),
		"bar twice":                  subsOf("x - xx"),
		"wait twice":                 subsOf("- Bwb2w -"),
		"private twice":              subsOf("pf1p - -"),
		"screen of one twice":        subsOf("- s0s0f2 -"),
		"screen of one twice, apart": subsOf("- s2f2s0s2 -"),
		"the first one is wrong":     subsOf("f3 f2 -"),
		"the last one is wrong":      subsOf("- f2 f3"),
		"one alone, to another":      subsOf("f1"),
	}
}

// P7, P21: subs that are right, at the limits too.
func TestSubsOk(t *testing.T) {
	good := map[string][]impl.Sub{
		"one":                   plainSubs(1),
		"one with empty lists":  {{Features: []impl.Feature{}}},
		"one of its own":        subsOf("BLf0b0l0xs0wp"),
		"two":                   plainSubs(2),
		"MaxSubs":               plainSubs(impl.MaxSubs),
		"each kind":             subsOf("- f2b1l0xs2wp BLpws0s1s2xl2b2f2"),
		"to itself":             subsOf("f0b0l0s0 f1b1l1s1"),
		"screens of all":        subsOf("s0s1s2 s2s1s0 s1"),
		"the last of MaxSubs":   append(plainSubs(impl.MaxSubs-1), subsOf("f15b15l15s15")...),
		"all that one may have": append(plainSubs(impl.MaxSubs-1), subsOf(everyScreen(impl.MaxSubs, "f0b1l2xwp"))...),
		"one kind at each":      subsOf("f1 f2 f0"),
	}
	for why, subs := range good {
		if !impl.SubsOk(subs) {
			t.Errorf("%s: %v are not ok", why, subs)
		}
	}
	for why, subs := range wrongSubs() {
		if impl.SubsOk(subs) {
			t.Errorf("%s: %v are ok", why, subs)
		}
	}
}

// P7, P21: from 1 to MaxSubs of them.
func TestSizesOfSubs(t *testing.T) {
	for n := range impl.MaxSubs + 5 {
		want := n >= 1 && n <= 16
		if got := impl.SubsOk(plainSubs(n)); got != want {
			t.Errorf("%d subs: %v", n, got)
		}
	}
}

// P7, P21: a feature by its kind, its Other, how many subs there are and which
// of them has it.
func TestFeatureOfSubs(t *testing.T) {
	for n := 1; n <= impl.MaxSubs; n++ {
		for at := range n {
			for kind := -2; kind <= 10; kind++ {
				for other := -2; other <= n+1; other++ {
					subs := plainSubs(n)
					subs[at].Features = []impl.Feature{{Kind: kind, Other: other}}
					want := other == 0
					if slices.Contains([]int{1, 2, 3, 5}, kind) {
						want = other >= 0 && other <= n-1
					}
					want = want && kind >= 1 && kind <= 7
					if got := impl.SubsOk(subs); got != want {
						t.Fatalf("%d subs, kind %d with %d at %d: %v", n, kind, other, at, got)
					}
				}
			}
		}
	}
}

// P7: no two features of one kind, but screens of several, side by side or
// with others between them.
func TestFeaturesTwice(t *testing.T) {
	parts := []string{"f0", "f1", "f2", "b0", "b1", "b2", "l0", "l1", "l2", "x", "s0", "s1", "s2", "w", "p"}
	for _, one := range parts {
		for _, two := range parts {
			want := one[0] != two[0] || one[0] == 's' && one != two
			apart := one
			for _, other := range []string{"f1", "b1", "l1", "x", "w", "p"} {
				if other[0] != one[0] && other[0] != two[0] {
					apart += other
				}
			}
			for _, word := range []string{one + two, apart + two} {
				if got := impl.SubsOk(subsOf("- - " + word)); got != want {
					t.Errorf("%s: %v", word, got)
				}
			}
		}
	}
}

// P7: features of several subscribers play no part for one another.
func TestFeaturesApart(t *testing.T) {
	for _, part := range []string{"f2", "b2", "l2", "x", "s2", "w", "p"} {
		if !impl.SubsOk(subsOf(part + " " + part + " " + part)) {
			t.Errorf("%s at each: not ok", part)
		}
	}
}
