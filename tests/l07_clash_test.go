package tests

import (
	"fmt"
	"slices"
	"strings"
	"testing"

	"loop.example/g00052/impl"
)

// clashCase is some subs, by their text, and all their clashes.
type clashCase struct {
	subs string
	want string
	why  string
}

func checkClashes(t *testing.T, cases []clashCase) {
	t.Helper()
	for _, c := range cases {
		if got := textOfClashes(impl.Clashes(subsOf(c.subs))); got != c.want {
			t.Errorf("%s: %s: %q, not %q", c.why, c.subs, got, c.want)
		}
	}
}

// P7: which two features clash.
func TestClashes(t *testing.T) {
	checkClashes(t, []clashCase{
		{"- Bf2b3 - -", "1:0+1 0>1", "forward and busy to: answer@3, answer@2, busy@1"},
		{"- Bwb2 -", "1:0+1 0>1", "wait and busy to: answer@2, wait@1, busy@1"},
		{"- Bwf2 -", "1:0+1 0>1", "wait and forward: answer@2, wait@1, busy@1"},
		{"- Lf2l3 - -", "1:0+1 0>1", "forward and late to: answer@3, answer@2, late@1"},
		{"- s0f2 -", "1:0+1 0>1", "screen and forward: answer@2, screened@1, answer@1"},
		{"- Bs0w", "1:0+1 0>1", "screen and wait: wait@1, screened@1, busy@1"},
		{"- Bs0b2 -", "1:0+1 0>1", "screen and busy to: answer@2, screened@1, busy@1"},
		{"- Ls0l2 -", "1:0+1 0>1", "screen and late to: answer@2, screened@1, late@1"},
		{"xp s2 -", "0:0+1 0>1", "bar and private, at from: screened@1, barred@0, answer@1"},
		{"px s2 -", "0:0+1 0>1", "private and bar, at from"},
		{"Bf1b0 -", "0:0+1 1>0", "forward and busy to itself: loop@0, loop@1, busy@0"},
		{"- Bf0b1", "1:0+1 0>1", "both to where it comes from: loop@1, loop@0, busy@1"},
		{"- s0s2f1 -", "1:0+2 0>1, 1:1+2 2>1", "two screens, each with the forward, but not with one another"},
	})
}

// P7: two features of which one plays no part beside the other.
func TestNoClashes(t *testing.T) {
	checkClashes(t, []clashCase{
		{"-", "", "one alone with nothing"},
		{"BLf0b0l0xs0wp", "", "one alone with all"},
		{"- -", "", "nothing is ordered"},
		{"- f2 -", "", "a feature has no other"},
		{"- Lf2w -", "", "waiting, where none is busy"},
		{"- f2b3 - -", "", "busy to, where none is busy"},
		{"- f2l3 - -", "", "late to, where none is late"},
		{"- BLb2l3 - -", "", "late to, where one is busy"},
		{"- Bwl2 -", "", "late to, where one is busy and waits"},
		{"- Bf2b2 -", "", "forward and busy to one: alike without either"},
		{"- s0s2 -", "", "two screens"},
		{"p s0s2 -", "", "two screens of one who is private"},
		{"- s1f2 -", "", "a screen of nobody who calls"},
		{"- xf2 -", "", "a bar plays no part where one is called"},
		{"- pf2 s1", "", "nor does being private"},
		{"xf1 -", "", "a forward plays no part where one calls"},
		{"pf1 s1 -", "", "nor beside being private"},
		{"xp - -", "", "a bar and private, and nobody screens"},
		{"xp s0 -", "", "a bar and private, screened either way"},
		{"- Bf2 Bb1", "", "two features of two subscribers"},
	})
}

// P7: which from and to are told.
func TestFirstClash(t *testing.T) {
	checkClashes(t, []clashCase{
		{"Bwb2 - -", "0:0+1 1>0", "from 1 on, where 0 is the one"},
		{"- s2f3 - -", "1:0+1 2>1", "only who is screened"},
		{"- s3s2f0 - -", "1:0+2 3>1, 1:1+2 2>1", "who is screened by each of two"},
		{"- f2 Bwb3 -", "2:0+1 0>1", "to another one, over whom it comes"},
		{"- - Bwb3 - f2", "2:0+1 0>2", "itself, ahead of one over whom it comes"},
		{"x - Bwb1", "2:0+1 1>2", "not from one who is barred"},
		{"x s0 Bwb1", "2:0+1 1>2", "nor where that one would be screened"},
		{"xp - s1 s1", "0:0+1 0>2", "to the first who screens"},
		{"- Bb2f3 - s0", "1:0+1 0>1", "answer@2, screened@3, busy@1"},
		{"- Bf2b3 f1 f1", "1:0+1 0>2", "not to 1, loop@1 without either; to 2: loop@1, loop@2, busy@1"},
	})
}

// P7: several pairs and several subscribers, in their order.
func TestClashesInOrder(t *testing.T) {
	checkClashes(t, []clashCase{
		{"- Bwb2f3s0 - -", "1:0+2 2>1, 1:2+3 0>1", "two pairs of one"},
		{"Bwb1 - Bwb1 Lf0l1", "0:0+1 1>0, 2:0+1 0>2, 3:0+1 0>3", "three subscribers"},
		{"Bb2w Bs0w -", "0:0+1 1>0, 1:0+1 0>1", "neighbours"},
		{"- s0Bwb2 -", "1:0+1 0>1, 1:1+2 2>1", "a screen ahead: of 0, then of those who get through"},
	})
}

func TestClashesOfWrongSubs(t *testing.T) {
	for why, subs := range wrongSubs() {
		if got := impl.Clashes(subs); len(got) > 0 {
			t.Errorf("%s: %v: %v", why, subs, got)
		}
	}
}

// tellWithout leaves out the features of a subscriber at two places, which may
// be the same.
func tellWithout(subs []toldSub, at int, first int, second int) []toldSub {
	rest := slices.Clone(subs)
	rest[at].parts = nil
	for place, part := range subs[at].parts {
		if place != first && place != second {
			rest[at].parts = append(rest[at].parts, part)
		}
	}
	return rest
}

// tellEnd is the code and the place of what tellRoute says.
func tellEnd(subs []toldSub, from int, to int) string {
	end, _, _ := strings.Cut(tellRoute(subs, from, to), " ")
	return end
}

func comesTo(subs []toldSub, at int, from int, to int) bool {
	_, places, _ := strings.Cut(tellRoute(subs, from, to), "@")
	return slices.Contains(strings.Fields(places), fmt.Sprint(at))
}

// tellClash goes through all calls, for one pair of features.
func tellClash(subs []toldSub, at int, first int, second int) string {
	ways := [][]toldSub{tellWithout(subs, at, first, first), tellWithout(subs, at, second, second), tellWithout(subs, at, first, second)}
	clash := ""
	everyCall(len(subs), func(from int, to int) {
		ends := map[string]bool{}
		for _, rest := range ways {
			ends[tellEnd(rest, from, to)] = true
		}
		if clash == "" && len(ends) == 3 && comesTo(subs, at, from, to) {
			clash = fmt.Sprintf("%d:%d+%d %d>%d", at, first, second, from, to)
		}
	})
	return clash
}

func tellClashes(subs []toldSub) string {
	var clashes []string
	for at, sub := range subs {
		for first := range sub.parts {
			for second := first + 1; second < len(sub.parts); second++ {
				if clash := tellClash(subs, at, first, second); clash != "" {
					clashes = append(clashes, clash)
				}
			}
		}
	}
	return strings.Join(clashes, ", ")
}

// P7: all clashes of drawn subs.
func TestClashesOfDrawnSubs(t *testing.T) {
	d := drawn(17)
	pairs := map[[2]int]int{}
	for round := range 600 {
		subs := drawSubs(&d, 2+round%5, 2+round%6)
		text := textOfSubs(subs)
		got := impl.Clashes(subs)
		if want := tellClashes(tellSubs(text)); textOfClashes(got) != want {
			t.Fatalf("%s: %q, not %q", text, textOfClashes(got), want)
		}
		for _, c := range got {
			one, two := subs[c.Sub].Features[c.First].Kind, subs[c.Sub].Features[c.Second].Kind
			pairs[[2]int{min(one, two), max(one, two)}]++
		}
	}
	if len(pairs) < 9 {
		t.Errorf("few pairs of kinds were drawn: %v", pairs)
	}
}

// P7: all that one of two may have, beside a few others.
func TestClashesOfEveryWord(t *testing.T) {
	everyWord(2, func(word string) {
		for _, form := range []string{"- -%s", "-%s p", "s0 -%s"} {
			text := fmt.Sprintf(form, word)
			if got, want := textOfClashes(impl.Clashes(subsOf(text))), tellClashes(tellSubs(text)); got != want {
				t.Fatalf("%s: %q, not %q", text, got, want)
			}
		}
	})
}

// P7, P21: MaxSubs who have all they may.
func TestClashesOfFullSubs(t *testing.T) {
	subs := plainSubs(impl.MaxSubs)
	for at := range subs {
		next := (at + 1) % len(subs)
		subs[at] = subsOf(everyScreen(len(subs), fmt.Sprintf("f%db%dl%dwp", next, at, at)))[0]
		subs[at].Busy, subs[at].Late = at%2 == 0, at%3 == 0
	}
	// Who is private is kept out by each screen, so no two of them are enough.
	if got := impl.Clashes(subs); len(got) > 0 {
		t.Errorf("all are private: %v", got)
	}
	for at := range subs {
		subs[at].Features = subs[at].Features[:len(subs[at].Features)-1]
	}
	// Who is not is kept out by one, which clashes with the forward behind it.
	var want []string
	for at := range subs {
		for other := range subs {
			if other != at {
				want = append(want, fmt.Sprintf("%d:%d+%d %d>%d", at, other, len(subs), other, at))
			}
		}
	}
	if got := textOfClashes(impl.Clashes(subs)); got != strings.Join(want, ", ") {
		t.Errorf("none is private: %s", got)
	}
}
