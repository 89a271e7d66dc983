package tests

import (
	"maps"
	"slices"
	"testing"

	"loop.example/g00052/impl"
)

// What lies behind the lists of a guarded link would change an answer, were it
// read: a message more, and a Unit that acknowledges too much.
var (
	spareUnit   = impl.Unit{Ack: 99}
	spareLinkOp = impl.LinkOp{Kind: impl.LinkOver}
)

const spareText = "spare"

// linkLists are all lists of a link: the texts and the Units.
func linkLists(l *impl.Link) ([4]*[]string, [4]*[]impl.Unit) {
	return [4]*[]string{&l.Ends[0].Out, &l.Ends[0].In, &l.Ends[1].Out, &l.Ends[1].In},
		[4]*[]impl.Unit{&l.Ways[0][0], &l.Ways[0][1], &l.Ways[1][0], &l.Ways[1][1]}
}

// guardedLink is a link whose lists have spare room behind them.
type guardedLink struct {
	link  impl.Link
	texts [4]guarded[string]
	units [4]guarded[impl.Unit]
}

func guardLink(l impl.Link) *guardedLink {
	g := &guardedLink{link: l}
	texts, units := linkLists(&g.link)
	for i := range 4 {
		g.texts[i], g.units[i] = guard(spareText, *texts[i]), guard(spareUnit, *units[i])
		*texts[i], *units[i] = g.texts[i].list, g.units[i].list
	}
	return g
}

func (g *guardedLink) untouched() bool {
	return !slices.ContainsFunc(g.texts[:], func(list guarded[string]) bool { return !list.untouched() }) &&
		!slices.ContainsFunc(g.units[:], func(list guarded[impl.Unit]) bool { return !list.untouched() })
}

func (g *guardedLink) scribble() {
	for i := range 4 {
		scribble(g.texts[i].whole, "scribbled")
		scribble(g.units[i].whole, impl.Unit{Ack: -5, Seq: -5})
	}
}

func scribbleLink(l impl.Link) {
	texts, units := linkLists(&l)
	for i := range 4 {
		scribble(*texts[i], "written")
		scribble(*units[i], impl.Unit{Ack: -6, Seq: -6})
	}
}

// linkListsApart writes into each list of a link in turn, its spare room too, and
// asks for the others.
func linkListsApart(l impl.Link) bool {
	texts, units := linkLists(&l)
	for i := range 4 {
		first := copyOfLink(l)
		scribble(*texts[i], "written")
		firstTexts, firstUnits := linkLists(&first)
		*firstTexts[i] = *texts[i]
		if !sameLink(l, first) {
			return false
		}
		scribble(*units[i], impl.Unit{Ack: -7, Seq: i})
		*firstUnits[i] = *units[i]
		if !sameLink(l, first) {
			return false
		}
	}
	return true
}

// memoryLinks are right and wrong ones, sorted by why.
func memoryLinks() []impl.Link {
	var list []impl.Link
	for _, links := range []map[string]impl.Link{rightLinks(), wrongLinks()} {
		for _, why := range slices.Sorted(maps.Keys(links)) {
			list = append(list, links[why])
		}
	}
	return list
}

// linkCalls are all calls that answer a link, by their names.
func linkCalls() map[string]func(l impl.Link) impl.Link {
	ops := linkOpsOf("tell 0 t, tell 1 ., send 0, send 1, again 0, again 1, carry 0, carry 1, lose 0, lose 1, over 0, tell 2 t, - 0")
	calls := map[string]func(l impl.Link) impl.Link{
		"LinkOk": func(l impl.Link) impl.Link {
			if impl.LinkOk(l) {
				return impl.Link{Use: 1}
			}
			return impl.Link{}
		},
		"Drain": func(l impl.Link) impl.Link {
			after, _ := impl.Drain(l)
			return after
		},
		"RunLink": func(l impl.Link) impl.Link { return impl.RunLink(l, ops) },
		"no ops":  func(l impl.Link) impl.Link { return impl.RunLink(l, nil) },
	}
	for _, op := range ops {
		name := linkOpNames()[op.Kind] + string(rune('0'+op.End))
		calls[name] = func(l impl.Link) impl.Link {
			after, _ := impl.DoLink(l, op)
			return after
		}
	}
	return calls
}

// checkLinkMemory calls with a link that has spare room behind its lists:
// neither that nor the link is written into, what lies there plays no part, and
// what is answered stands apart.
func checkLinkMemory(t *testing.T, name string, l impl.Link, call func(l impl.Link) impl.Link) {
	t.Helper()
	first := copyOfLink(call(copyOfLink(l)))
	g := guardLink(l)
	answer := call(g.link)
	if !g.untouched() {
		t.Errorf("%s wrote into %v", name, l)
	}
	if !sameLink(answer, first) {
		t.Errorf("%s of %v: %v, not %v", name, l, answer, first)
	}
	g.scribble()
	if !sameLink(answer, first) {
		t.Errorf("%s of %v: its answer changed with the argument", name, l)
	}
	g = guardLink(l)
	scribbleLink(call(g.link))
	if !g.untouched() {
		t.Errorf("%s of %v shares its lists", name, l)
	}
	if !sameLink(call(g.link), first) {
		t.Errorf("%s of %v: another answer the next time", name, l)
	}
	if !linkListsApart(call(g.link)) {
		t.Errorf("%s of %v: lists of its answer share", name, l)
	}
}

// P10: nothing is written into an argument or behind it, nothing there is read,
// and no answer shares memory with one.
func TestLinkMemory(t *testing.T) {
	for _, l := range memoryLinks() {
		for name, call := range linkCalls() {
			checkLinkMemory(t, name, l, call)
		}
	}
}

// P10: where lists of the argument are one list, those of the answer are two.
func TestLinkOfOneList(t *testing.T) {
	texts := manyTexts(12)
	units := []impl.Unit{{}, {Seq: 2, Data: texts[1]}, {Seq: 1, Data: texts[0]}, {Ack: 1}}
	end := impl.End{Out: texts, Sent: 4, Acked: 1, Taken: 2, In: texts[:2]}
	one := impl.Link{Ends: [2]impl.End{end, end}, Ways: [2][2][]impl.Unit{{units, units}, {units, units[:3]}}}
	wrong := one
	wrong.Use = 2
	for _, l := range []impl.Link{one, wrong} {
		first := copyOfLink(l)
		for name, call := range linkCalls() {
			if !linkListsApart(call(l)) {
				t.Errorf("%s: lists of the answer share", name)
			}
			if !sameLink(l, first) {
				t.Fatalf("%s wrote into its argument", name)
			}
		}
	}
	if !impl.LinkOk(one) || impl.LinkOk(wrong) {
		t.Errorf("%v is not ok, or %v is", one, wrong)
	}
}

// P10: a run reads no op behind its list, and writes into none.
func TestRunLinkMemory(t *testing.T) {
	all := linkOpsOf("tell 0 t, send 0, again 1, carry 1, carry 0, send 1, lose 0, - 0, tell 1 t")
	for _, text := range []string{"-:0.0.0 -:0.0.0", busyLink, busyLink + " way1"} {
		for n := range len(all) + 1 {
			ops := guard(spareLinkOp, all[:n])
			got := impl.RunLink(linkOf(text), ops.list)
			if !ops.untouched() || !sameLink(got, impl.RunLink(linkOf(text), slices.Clone(all[:n]))) {
				t.Errorf("%s, %d ops: %v", text, n, got)
			}
		}
	}
}
