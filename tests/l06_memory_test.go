package tests

import (
	"testing"

	"loop.example/g00052/impl"
)

var strangeNote = impl.Note{Kind: 7, Circuit: -7}

const strangeSeen = 77

func memoryTrunks() []impl.Trunk {
	return []impl.Trunk{
		{},
		trunkOf("FFF0 FFF0"),
		trunkOf("FMT0 FTM0"),
		trunkOf("AMF0 ATF0 0I0 1I0 1K2"),
		trunkOf("AML1000000 ATF3 0N0 1G2 1I1"),
		trunkOf("M0 T0 1N0"),
		withNotes("MFF0 FFM0 0I1", impl.MaxTrunkWay, "1O1"),
		withNotes("MFF0 FFM0 1I1", impl.MaxTrunkWay-1, "0O1"),
		withNotes("MFF0 FFM0 1I1", impl.MaxTrunkWay+1, "0O1"),
		allFree(impl.MaxCircuits, impl.MaxCircuits),
		allFree(impl.MaxCircuits+1, impl.MaxCircuits+1),
		trunkOf("MF0 F0 0I0 1I0"),
	}
}

// guardedTrunk is a trunk whose lists have spare room behind them.
type guardedTrunk struct {
	given    impl.Trunk
	circuits [2]guarded[int]
	ways     [2]guarded[impl.Note]
}

func guardTrunk(trunk impl.Trunk) *guardedTrunk {
	g := &guardedTrunk{given: trunk}
	for side := range 2 {
		g.circuits[side] = guard(strangeSeen, trunk.Circuits[side])
		g.ways[side] = guard(strangeNote, trunk.Way[side])
		g.given.Circuits[side] = g.circuits[side].list
		g.given.Way[side] = g.ways[side].list
	}
	return g
}

func (g *guardedTrunk) untouched() bool {
	return g.circuits[0].untouched() && g.circuits[1].untouched() && g.ways[0].untouched() && g.ways[1].untouched()
}

func (g *guardedTrunk) scribble() {
	for side := range 2 {
		scribble(g.circuits[side].whole, strangeSeen)
		scribble(g.ways[side].whole, strangeNote)
	}
}

func scribbleTrunk(trunk impl.Trunk) {
	for side := range 2 {
		scribble(trunk.Circuits[side], strangeSeen)
		scribble(trunk.Way[side], strangeNote)
	}
}

// sidesApart writes into all of side 0, and asks for side 1.
func sidesApart(trunk impl.Trunk) bool {
	first := copyOfTrunk(trunk)
	scribble(trunk.Circuits[0], strangeSeen)
	scribble(trunk.Way[0], strangeNote)
	first.Circuits[0], first.Way[0] = trunk.Circuits[0], trunk.Way[0]
	return sameTrunk(trunk, first)
}

// checkTrunkMemory calls with a trunk that has spare room behind its lists:
// neither that nor the trunk is written into, and what is answered stands apart.
func checkTrunkMemory(t *testing.T, name string, trunk impl.Trunk, call func(trunk impl.Trunk) impl.Trunk) {
	t.Helper()
	g := guardTrunk(trunk)
	first := copyOfTrunk(call(g.given))
	if !g.untouched() {
		t.Errorf("%s wrote into %v", name, trunk)
	}
	answer := call(g.given)
	if !sameTrunk(answer, first) {
		t.Errorf("%s of %v: %v, then %v", name, trunk, first, answer)
	}
	scribbleTrunk(answer)
	if !g.untouched() {
		t.Errorf("%s of %v shares its lists", name, trunk)
	}
	answer = call(g.given)
	if !sidesApart(call(g.given)) {
		t.Errorf("%s of %v: its sides share a list", name, trunk)
	}
	g.scribble()
	if !sameTrunk(answer, first) {
		t.Errorf("%s of %v: its answer changed with the argument", name, trunk)
	}
}

// trunkCalls are all calls that take a trunk, by their names.
func trunkCalls() map[string]func(trunk impl.Trunk) impl.Trunk {
	calls := map[string]func(trunk impl.Trunk) impl.Trunk{
		"CarryAll": impl.CarryAll,
		"TrunkOk and Settled": func(trunk impl.Trunk) impl.Trunk {
			impl.TrunkOk(trunk)
			impl.Settled(trunk)
			return impl.Trunk{}
		},
	}
	for _, act := range []string{"seize 0", "seize 1", "seize 2", "leave 0 0", "leave 0 1", "leave 1 2", "leave 1 9", "carry 0", "carry 1", "carry 2"} {
		calls[act] = func(trunk impl.Trunk) impl.Trunk {
			after, _ := actOn(trunk, act)
			return after
		}
	}
	return calls
}

// P6: nothing is written into an argument, and no answer shares memory with one.
func TestTrunkMemory(t *testing.T) {
	for _, trunk := range memoryTrunks() {
		for name, call := range trunkCalls() {
			checkTrunkMemory(t, name, trunk, call)
		}
	}
}

// P6: where both sides of the argument are one list, those of the answer are two.
func TestTrunkOfOneList(t *testing.T) {
	for _, trunk := range memoryTrunks() {
		for name, call := range trunkCalls() {
			one := copyOfTrunk(trunk)
			one.Circuits[1], one.Way[1] = one.Circuits[0], one.Way[0]
			if !sidesApart(call(one)) {
				t.Errorf("%s of %v: the answer's sides share a list", name, trunk)
			}
		}
	}
}

// P6: the lists of a new trunk are its own, and one another's.
func TestNewTrunkMemory(t *testing.T) {
	for n := range impl.MaxCircuits + 1 {
		trunk := impl.NewTrunk(n)
		if !sidesApart(impl.NewTrunk(n)) {
			t.Errorf("%d: both sides share a list", n)
		}
		scribbleTrunk(impl.NewTrunk(n))
		if n > 0 && !sameTrunk(trunk, allFree(n, n)) || !sameTrunk(trunk, impl.NewTrunk(n)) {
			t.Errorf("%d: two trunks share a list", n)
		}
	}
}
