package tests

import (
	"slices"
	"testing"

	"loop.example/g00052/impl"
)

func copyOfPanel(p impl.Panel) impl.Panel {
	q := impl.Panel{Lines: p.Lines}
	for _, call := range p.Calls {
		q.Calls = append(q.Calls, impl.Call{Parked: call.Parked, Legs: slices.Clone(call.Legs)})
	}
	return q
}

// guardedPanel is a panel whose lists have spare room behind them, and what
// must stay as it is: all legs lie in one array, with a mark behind each call.
type guardedPanel struct {
	panel impl.Panel
	calls []impl.Call
	legs  guarded[impl.Leg]
	first impl.Panel
	spare impl.Call
}

func guardPanel(p impl.Panel) *guardedPanel {
	mark := impl.Leg{Line: 77, Held: true}
	var all []impl.Leg
	for _, call := range p.Calls {
		all = append(append(all, call.Legs...), mark)
	}
	g := &guardedPanel{legs: guard(mark, all), first: copyOfPanel(p), spare: impl.Call{Parked: true, Legs: []impl.Leg{mark, mark}}}
	at := 0
	for _, call := range p.Calls {
		g.calls = append(g.calls, impl.Call{Parked: call.Parked, Legs: g.legs.list[at : at+len(call.Legs)]})
		at += len(call.Legs) + 1
	}
	n := len(g.calls)
	for range 20 {
		g.calls = append(g.calls, g.spare)
	}
	g.panel = impl.Panel{Lines: p.Lines, Calls: g.calls[:n]}
	return g
}

func (g *guardedPanel) untouched() bool {
	n := len(g.panel.Calls)
	for _, call := range g.calls[n:] {
		if !call.Parked || !slices.Equal(call.Legs, g.spare.Legs) || call.Legs[0].Line != 77 {
			return false
		}
	}
	return g.legs.untouched() && samePanel(g.panel, g.first)
}

// scribblePanel writes into all that a panel reaches.
func scribblePanel(p impl.Panel) {
	calls := p.Calls[:cap(p.Calls)]
	for i := range calls {
		scribble(calls[i].Legs, impl.Leg{Line: 55, Held: true})
		calls[i] = impl.Call{Parked: true, Legs: []impl.Leg{{Line: 56}}}
	}
}

// listsApart writes into each list of an answer in turn and looks whether
// another one changes by it.
func listsApart(p impl.Panel) bool {
	for i := range p.Calls {
		before := copyOfPanel(p)
		scribble(p.Calls[i].Legs, impl.Leg{Line: 57 + i})
		for j := range p.Calls {
			if j != i && !slices.Equal(p.Calls[j].Legs, before.Calls[j].Legs) {
				return false
			}
		}
	}
	return true
}

// memoryPanels are right and wrong ones with several calls.
func memoryPanels() []impl.Panel {
	list := []impl.Panel{panelOf(6, ""), panelOf(6, "abc *d"), panelOf(6, "aB *cd ef"), panelOf(40, "abcd efgh *ijk"), panelOf(40, "*abcdefgh *i jkl")}
	for _, p := range wrongPanels() {
		list = append(list, p)
	}
	return list
}

func TestDoPanelMemory(t *testing.T) {
	for _, p := range memoryPanels() {
		for kind := 0; kind <= 7; kind++ {
			for a := range 7 {
				for _, b := range []int{0, 1, 3, 5} {
					op := impl.PanelOp{Kind: kind, A: a, B: b}
					g := guardPanel(p)
					got, code := impl.DoPanel(g.panel, op)
					if !g.untouched() {
						t.Fatal("written into", p, op, code)
					}
					again := copyOfPanel(got)
					scribblePanel(impl.Panel{Calls: slices.Clone(g.calls)})
					if !samePanel(got, again) {
						t.Fatal("shares with the argument", p, op, code)
					}
					if !listsApart(got) {
						t.Fatal("lists of the answer share", p, op, code)
					}
					g = guardPanel(p)
					got, _ = impl.DoPanel(g.panel, op)
					scribblePanel(got)
					if !g.untouched() {
						t.Fatal("the argument shares with the answer", p, op, code)
					}
				}
			}
		}
	}
}

// Calls of one wrong panel that share their legs come back apart.
func TestDoPanelOfSharedLegs(t *testing.T) {
	legs := []impl.Leg{{Line: 0}, {Line: 1}}
	p := impl.Panel{Lines: 4, Calls: []impl.Call{{Legs: legs}, {Legs: legs}}}
	got, code := impl.DoPanel(p, joinOp(2, 3))
	if code != impl.PanelBad || !samePanel(got, p) || !listsApart(got) {
		t.Error(got, code)
	}
	if got, _ = impl.RunPanel(p, nil); !samePanel(got, p) || !listsApart(got) {
		t.Error("run", got)
	}
}

func TestRunPanelMemory(t *testing.T) {
	for _, p := range memoryPanels() {
		for seed := range uint32(6) {
			g := guardPanel(p)
			ops := guard(impl.PanelOp{Kind: 9, A: 9, B: 9}, opsFrom(seed, 6, int(seed)*9))
			got, codes := impl.RunPanel(g.panel, ops.list)
			if !g.untouched() || !ops.untouched() {
				t.Fatal("written into", p, seed)
			}
			again, sameCodes := copyOfPanel(got), slices.Clone(codes)
			scribblePanel(impl.Panel{Calls: slices.Clone(g.calls)})
			scribble(ops.list, impl.PanelOp{Kind: 8, A: 8, B: 8})
			if !samePanel(got, again) || !slices.Equal(codes, sameCodes) {
				t.Fatal("shares with an argument", p, seed)
			}
			if !listsApart(got) {
				t.Fatal("lists of the answer share", p, seed)
			}
			g = guardPanel(p)
			got, codes = impl.RunPanel(g.panel, nil)
			scribblePanel(got)
			scribble(codes, 99)
			if !g.untouched() {
				t.Fatal("the argument shares with the answer", p)
			}
		}
	}
}

func TestHearingMemory(t *testing.T) {
	for _, p := range memoryPanels() {
		g := guardPanel(p)
		levels := guard(999, make([]int, max(0, min(p.Lines, 50))))
		for i := range levels.list {
			levels.list[i], levels.first[i] = i, i
		}
		mixed, _ := impl.Mix(g.panel, levels.list)
		scribble(mixed, 12345)
		for line := -1; line < 7; line++ {
			scribble(impl.Heard(g.panel, line), 12345)
			impl.OneCall(g.panel, line, 1)
		}
		impl.PanelOk(g.panel)
		if !g.untouched() || !levels.untouched() {
			t.Error("written into, or shared", p)
		}
	}
}
