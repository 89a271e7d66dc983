package tests

import (
	"fmt"
	"slices"
	"testing"

	"loop.example/g00052/impl"
)

var strangeFeature = impl.Feature{Kind: 77, Other: -77}

func memorySubs() [][]impl.Sub {
	list := [][]impl.Sub{
		subsOf("-"),
		subsOf("- -"),
		subsOf("- Bf2b3 Ll3s1 -"),
		subsOf("xp s2wf0 Bs0wb1"),
		subsOf(chainText(6, "s0p")),
	}
	for _, subs := range wrongSubs() {
		list = append(list, subs)
	}
	return list
}

// guardedSubs are subs with spare room behind them, whose features all lie in
// one array, with a mark behind those of each.
type guardedSubs struct {
	given    []impl.Sub
	whole    []impl.Sub
	features guarded[impl.Feature]
	first    []impl.Sub
}

func guardSubs(subs []impl.Sub) *guardedSubs {
	var all []impl.Feature
	for _, sub := range subs {
		all = append(append(all, sub.Features...), strangeFeature)
	}
	g := &guardedSubs{features: guard(strangeFeature, all)}
	g.whole = slices.Grow(slices.Clone(subs), 20)
	at := 0
	for i, sub := range subs {
		g.whole[i].Features = g.features.list[at : at+len(sub.Features)]
		at += len(sub.Features) + 1
	}
	for range 20 {
		g.whole = append(g.whole, impl.Sub{Busy: true, Features: []impl.Feature{strangeFeature}})
	}
	g.given = g.whole[:len(subs)]
	g.first = copyOfSubs(g.whole)
	return g
}

func (g *guardedSubs) untouched() bool {
	return g.features.untouched() && sameSubs(g.whole, g.first)
}

func (g *guardedSubs) scribble() {
	scribble(g.features.whole, strangeFeature)
	scribble(g.whole, impl.Sub{Late: true, Features: []impl.Feature{strangeFeature}})
}

// P7: SubsOk, Route7 and Clashes write into nothing, and share nothing.
func TestFeatureMemory(t *testing.T) {
	for _, subs := range memorySubs() {
		g := guardSubs(subs)
		impl.SubsOk(g.given)
		clashes := impl.Clashes(g.given)
		told := fmt.Sprint(clashes)
		for from := range 4 {
			for to := range 4 {
				out := impl.Route7(g.given, from, to)
				scribble(out.Hops, 99)
			}
		}
		if !g.untouched() {
			t.Errorf("%v: written into", subs)
		}
		g.scribble()
		if fmt.Sprint(clashes) != told {
			t.Errorf("%v: clashes change with the argument", subs)
		}
	}
}

// P7: two calls over the same subscribers have hops of their own.
func TestRouteMemory(t *testing.T) {
	subs := subsOf(chainText(6, "-"))
	one, two := impl.Route7(subs, 0, 1), impl.Route7(subs, 0, 1)
	scribble(one.Hops, 99)
	if textOfOutcome(two) != "loop@7 1 2 3 4 5 6" {
		t.Error(two)
	}
}

// featuresApart writes into the features of each in turn and looks whether
// those of another one change by it.
func featuresApart(subs []impl.Sub) bool {
	for i := range subs {
		before := copyOfSubs(subs)
		scribble(subs[i].Features, strangeFeature)
		before[i] = subs[i]
		if !sameSubs(subs, before) {
			return false
		}
	}
	return true
}

// P7: Order7 writes into nothing, and its answer is new memory.
func TestOrder7Memory(t *testing.T) {
	for _, subs := range memorySubs() {
		for _, letters := range []string{"", "f", "pwsxlbf", "wwb?"} {
			g := guardSubs(subs)
			kinds := guard(99, kindsOf(letters))
			first := copyOfSubs(impl.Order7(g.given, kinds.list))
			if !g.untouched() || !kinds.untouched() {
				t.Fatalf("%v by %q: written into", subs, letters)
			}
			answer := impl.Order7(g.given, kinds.list)
			if !featuresApart(answer) {
				t.Errorf("%v by %q: lists of the answer share", subs, letters)
			}
			scribble(answer, impl.Sub{Busy: true})
			if !g.untouched() || !kinds.untouched() {
				t.Errorf("%v by %q: the argument shares with the answer", subs, letters)
			}
			answer = impl.Order7(g.given, kinds.list)
			g.scribble()
			scribble(kinds.whole, 98)
			if !sameSubs(answer, first) {
				t.Errorf("%v by %q: the answer shares with an argument", subs, letters)
			}
		}
	}
}

// P7: subs that share one list of features come back apart.
func TestOrder7OfOneList(t *testing.T) {
	features := featuresOf("f1b0s0s1")
	subs := []impl.Sub{{Features: features}, {Features: features}}
	got := impl.Order7(subs, nil)
	if !sameSubs(got, subs) || !featuresApart(got) {
		t.Error(got)
	}
}
