package tests

import (
	"slices"
	"testing"

	"loop.example/g00052/impl"
)

// markedPath would be a path of its own if the room behind a list were read.
var markedPath = impl.Path{From: 5, To: 5, Mid: 1}

// memoryFabrics are such that connecting needs no move, few or many, or is refused.
func memoryFabrics() []string {
	list := []string{
		"3.2.2", "3.2.2 0-2/0", "2.2.2 0-2/0 2-0/1", "3.2.2 0-2/0 2-0/1 3-4/0", "3.2.2 0-2/0 2-0/1 3-4/0 4-3/1",
		"1.2.1 0-0/0", "2.2.2 0-0/0 1-1/1 2-2/0 3-3/1",
		"6.2.2 2-0/1 3-2/0 4-3/1 5-4/0 6-5/1 0-6/0 8-7/1 9-8/0 10-9/1 11-10/0",
	}
	for _, text := range wrongFabrics() {
		list = append(list, text)
	}
	return list
}

// guardFabric answers the fabric of a text with spare room behind its paths.
func guardFabric(text string) (impl.Fabric, guarded[impl.Path]) {
	f := fabricOf(text)
	g := guard(markedPath, f.Paths)
	f.Paths = g.list
	return f, g
}

func TestConnectMemory(t *testing.T) {
	for _, text := range memoryFabrics() {
		for from := -1; from <= 6; from++ {
			for to := -1; to <= 6; to++ {
				f, guard := guardFabric(text)
				plain, plainMoves, plainCode := impl.Connect(fabricOf(text), from, to)
				got, moves, code := impl.Connect(f, from, to)
				if code != plainCode || !sameFabric(got, plain) || !slices.Equal(moves, plainMoves) {
					t.Fatal("the spare room plays a part", text, from, to)
				}
				if !guard.untouched() {
					t.Fatal("written into", text, from, to)
				}
				scribble(got.Paths, impl.Path{From: 91, To: 92, Mid: 93})
				scribble(moves, impl.Move{From: 94, Mid: 95})
				if !guard.untouched() {
					t.Fatal("the argument shares with the answer", text, from, to)
				}
				got, moves, _ = impl.Connect(f, from, to)
				scribble(guard.whole, impl.Path{From: 96, To: 97, Mid: 98})
				if !sameFabric(got, plain) || !slices.Equal(moves, plainMoves) {
					t.Fatal("the answer shares with the argument", text, from, to)
				}
			}
		}
	}
}

func TestReleaseMemory(t *testing.T) {
	for _, text := range memoryFabrics() {
		for from := -1; from <= 12; from++ {
			f, guard := guardFabric(text)
			plain, plainCode := impl.Release(fabricOf(text), from)
			got, code := impl.Release(f, from)
			if code != plainCode || !sameFabric(got, plain) {
				t.Fatal("the spare room plays a part", text, from)
			}
			if !guard.untouched() {
				t.Fatal("written into", text, from)
			}
			scribble(got.Paths, impl.Path{From: 91, To: 92, Mid: 93})
			if !guard.untouched() {
				t.Fatal("the argument shares with the answer", text, from)
			}
			got, _ = impl.Release(f, from)
			scribble(guard.whole, impl.Path{From: 96, To: 97, Mid: 98})
			if !sameFabric(got, plain) {
				t.Fatal("the answer shares with the argument", text, from)
			}
		}
	}
}

func TestNeedsMemory(t *testing.T) {
	for _, text := range memoryFabrics() {
		f, guard := guardFabric(text)
		plain := impl.Needs(fabricOf(text))
		got := impl.Needs(f)
		if impl.FabricOk(f) != impl.FabricOk(fabricOf(text)) || !slices.Equal(got, plain) {
			t.Fatal("the spare room plays a part", text)
		}
		scribble(got, impl.Path{From: 91, To: 92, Mid: 93})
		if !guard.untouched() {
			t.Fatal("written into, or shared", text)
		}
		got = impl.Needs(f)
		scribble(guard.whole, impl.Path{From: 96, To: 97, Mid: 98})
		if !slices.Equal(got, plain) {
			t.Fatal("the answer shares with the argument", text)
		}
	}
}

// Two answers of the same question share nothing either.
func TestFabricAnswersApart(t *testing.T) {
	f := fabricOf("3.2.2 0-2/0 2-0/1 3-4/0 4-3/1")
	one, oneMoves, _ := impl.Connect(f, 1, 1)
	two, twoMoves, _ := impl.Connect(f, 1, 1)
	scribble(one.Paths, impl.Path{From: 91, To: 92, Mid: 93})
	scribble(oneMoves, impl.Move{From: 94, Mid: 95})
	if textOfFabric(two) != "3.2.2 0-2/0 2-0/0 3-4/1 4-3/1 1-1/1" || !slices.Equal(twoMoves, []impl.Move{{From: 2, Mid: 0}, {From: 3, Mid: 1}}) {
		t.Error(textOfFabric(two), twoMoves)
	}
}
