package tests

import (
	"fmt"
	"slices"
	"testing"
	"unsafe"

	"loop.example/g00052/impl"
)

// guardedLists are things that have a list of numbers each, with spare room
// behind them; all numbers lie in one array, with a mark behind those of each.
type guardedLists[T any] struct {
	given   []T
	whole   []T
	listOf  func(one *T) *[]int
	numbers guarded[int]
	first   [][]int
}

func guardLists[T any](mark int, lists []T, listOf func(one *T) *[]int) *guardedLists[T] {
	g := &guardedLists[T]{listOf: listOf}
	var all []int
	for i := range lists {
		all = append(append(all, *listOf(&lists[i])...), mark)
	}
	g.numbers = guard(mark, all)
	at := 0
	for i := range lists {
		n := len(*listOf(&lists[i]))
		var one T
		*listOf(&one) = g.numbers.list[at : at+n]
		g.whole = append(g.whole, one)
		at += n + 1
	}
	for range 20 {
		var spare T
		*listOf(&spare) = []int{mark}
		g.whole = append(g.whole, spare)
	}
	g.given = g.whole[:len(lists)]
	for i := range g.whole {
		g.first = append(g.first, *listOf(&g.whole[i]))
	}
	return g
}

// untouched asks for the very lists that stood there first, with the numbers
// that they had.
func (g *guardedLists[T]) untouched() bool {
	for i, first := range g.first {
		now := *g.listOf(&g.whole[i])
		if len(now) != len(first) || cap(now) != cap(first) || unsafe.SliceData(now) != unsafe.SliceData(first) {
			return false
		}
	}
	for i := len(g.given); i < len(g.whole); i++ {
		if !slices.Equal(g.first[i], g.numbers.whole[len(g.numbers.list):len(g.numbers.list)+1]) {
			return false
		}
	}
	return g.numbers.untouched()
}

func (g *guardedLists[T]) scribble() {
	scribble(g.numbers.whole, 4321)
	var none T
	scribble(g.whole, none)
}

func ownList(row *[]int) *[]int { return row }

func coinsOf(asker *impl.Asker) *[]int { return &asker.Coins }

// checkListMemory: a call writes into nothing and reads nothing behind lists,
// and its answer stands apart from them and from other answers.
func checkListMemory[T any](t *testing.T, name string, lists []T, listOf func(one *T) *[]int, call func(lists []T) ([]int, bool)) {
	t.Helper()
	got, fine := call(slices.Clip(lists))
	want := slices.Clone(got)
	for _, mark := range []int{0, -50, 777} {
		g := guardLists(mark, lists, listOf)
		first, ok := call(g.given)
		second, _ := call(g.given)
		scribble(first, 4321)
		third, again := call(g.given)
		if ok != fine || again != fine || !slices.Equal(second, want) || !slices.Equal(third, want) || !g.untouched() {
			t.Errorf("%s of %v: written into, shared, or another answer", name, lists)
		}
		g.scribble()
		if !slices.Equal(second, want) || !slices.Equal(third, want) {
			t.Errorf("%s of %v: an argument is handed out", name, lists)
		}
	}
}

func memoryMeasures() [][][]int {
	r := drawn(1614)
	return [][][]int{
		nil,
		measuresOf("50"),
		measuresOf("50 60; 70 55; 70 55; 50 60"),
		measuresOf("50 60; 70"),
		measuresOf("50 60; 70 121"),
		drawMeasures(&r, 200, 12, 121, 8),
		drawMeasures(&r, 201, 12, 121, 8),
		drawMeasures(&r, 9, 13, 121, 8),
		{{}, {}},
	}
}

// P16: measures, and what serves.
func TestServingMemory(t *testing.T) {
	for _, measures := range memoryMeasures() {
		for _, c := range [][2]int{{0, 1}, {3, 2}, {5, 20}, {-1, 1}, {3, 21}} {
			checkListMemory(t, fmt.Sprint("Serving by ", c), measures, ownList, func(lists [][]int) ([]int, bool) {
				return impl.Serving(lists, c[0], c[1])
			})
		}
	}
}

// P16: one list at each tick.
func TestServingOfOneList(t *testing.T) {
	g := guard(-7, []int{-50, -40, -60})
	checkServing(t, [][]int{g.list, g.list, g.list}, 0, 1, []int{1, 1, 1})
	if !g.untouched() {
		t.Error("written into")
	}
}

func memoryGains() [][][]int {
	r := drawn(1615)
	return [][][]int{
		nil,
		rowsOf("7"),
		rowsOf("10 1; 2 10"),
		rowsOf("10 1; 2 0"),
		rowsOf("10 1; 2 10 5"),
		rowsOf("10 1; 2"),
		drawGains(&r, 12, 1000, 10),
		drawGains(&r, 13, 1000, 10),
	}
}

// P16: gains, and how loud each speaks.
func TestLoudnessMemory(t *testing.T) {
	for _, gains := range memoryGains() {
		for _, c := range [][3]int{{5, 4, 0}, {5, 4, 1}, {5, 4, 2}, {1000, 100, 50}, {0, 4, 1}, {5, 4, 51}} {
			checkListMemory(t, fmt.Sprint("Loudness by ", c), gains, ownList, func(lists [][]int) ([]int, bool) {
				return impl.Loudness(lists, c[0], c[1], c[2])
			})
		}
	}
}

// P16: stations that share one row.
func TestLoudnessOfOneRow(t *testing.T) {
	g := guard(7, []int{10, 1})
	checkLoudness(t, [][]int{g.list, g.list}, 5, 4, 2, secondLoudness(rowsOf("10 1; 10 1"), 5, 4, 2))
	if !g.untouched() {
		t.Error("written into")
	}
}

func memoryAskers() [][]impl.Asker {
	r := drawn(1616)
	return [][]impl.Asker{
		nil,
		askersOf(""),
		askersOf("5 2 1/1 0/9/2"),
		askersOf("5 2 1//9 1001"),
		drawAskers(&r, 40, 70, 1001),
		drawAskers(&r, 41, 70, 1001),
	}
}

// P16: askers and their coins, and who is heard.
func TestContendMemory(t *testing.T) {
	for _, askers := range memoryAskers() {
		for _, c := range [][2]int{{4, 0}, {4, 1}, {4, 3}, {16, 60}, {0, 3}, {4, 61}} {
			checkListMemory(t, fmt.Sprint("Contend by ", c), askers, coinsOf, func(lists []impl.Asker) ([]int, bool) {
				return impl.Contend(lists, c[0], c[1])
			})
		}
	}
}

// P16: coins that several askers share are used up by each for itself.
func TestContendOfOneListOfCoins(t *testing.T) {
	g := guard(7, []int{1, 2, 3, 0, 1})
	askers := []impl.Asker{{Coins: g.list}, {Coins: g.list[1:]}, {Coins: g.list[:2]}, {Coins: g.list[1:3]}}
	checkContend(t, askers, 4, 5, contendByPairs(askers, 4, 5))
	if !g.untouched() {
		t.Error("written into")
	}
}

func memoryAsks() [][]int {
	r := drawn(1617)
	return [][]int{nil, {1}, {30, 40, 30}, {30, 0}, {30, 1001}, drawAsks(&r, 60, 1000), drawAsks(&r, 61, 1000)}
}

// P16: what is had and asked, and who is let in; one list in both places too.
func TestAdmitMemory(t *testing.T) {
	for _, have := range memoryAsks() {
		for _, asks := range memoryAsks() {
			for _, room := range []int{-1, 0, 70, 20000, 100000} {
				got, fine := impl.Admit(slices.Clip(have), room, slices.Clip(asks))
				want := letters(got)
				a, b := guard(1, have), guard(2, asks)
				first, ok := impl.Admit(a.list, room, b.list)
				second, _ := impl.Admit(a.list, room, b.list)
				scribble(first, true)
				third, _ := impl.Admit(a.list, room, b.list)
				if ok != fine || letters(second) != want || letters(third) != want || !a.untouched() || !b.untouched() {
					t.Errorf("Admit(%d, %d, %d): written into, shared, or another answer", have, room, asks)
				}
			}
		}
		g := guard(1, have)
		got, ok := impl.Admit(g.list, 20000, g.list)
		want, fine := impl.Admit(slices.Clone(have), 20000, slices.Clone(have))
		if ok != fine || !slices.Equal(got, want) || !g.untouched() {
			t.Errorf("Admit(%d) twice: written into, or another answer", have)
		}
	}
}

// P16: Changes writes into nothing, and reads nothing behind the list.
func TestChangesMemory(t *testing.T) {
	for _, text := range []string{"", "0", "0 0", "0 1", "0 1 1 0", "0 0 1 1 1 0 0 2"} {
		for _, mark := range []int{0, 1, 2, 777} {
			g := guard(mark, numbersOf(text))
			count, fewest := changesByRuns(numbersOf(text))
			checkChanges(t, g.list, count, fewest)
			if !g.untouched() {
				t.Errorf("%s: written into", text)
			}
		}
	}
}

// P16: no call plays a part in what another one answers, nor do several at once.
func TestRadioKeepsNothing(t *testing.T) {
	tell := func(r *drawn) string {
		text := ""
		for i := range 6 {
			text += fmt.Sprintln(impl.Serving(memoryMeasures()[i], 3, 2))
			text += fmt.Sprintln(impl.Contend(memoryAskers()[i], 4, 20))
			text += fmt.Sprintln(impl.Loudness(memoryGains()[i], 5, 4, 20))
			text += fmt.Sprintln(impl.Admit([]int{40}, 20000, memoryAsks()[i]))
			text += fmt.Sprintln(impl.Changes(memoryAsks()[i]))
			impl.Serving(drawMeasures(r, r.below(20), 3, 20, 3), r.below(5), 1+r.below(3))
			impl.Contend(drawAskers(r, r.below(10), 5, 30), 1+r.below(8), r.below(8))
			impl.Loudness(drawGains(r, r.below(5), 50, 5), 1+r.below(9), 1+r.below(9), r.below(9))
			impl.Admit(nil, r.below(900), drawAsks(r, 5, 400))
		}
		return text
	}
	checkToldAlike(t, 1618, tell)
}
