package tests

import (
	"fmt"
	"slices"
	"testing"

	"loop.example/g00052/impl"
)

func memoryCalls() [][]impl.Arrival {
	r := drawn(1707)
	return [][]impl.Arrival{
		nil,
		arrivalsOf("5+3"),
		arrivalsOf("5+3/2 5+0 8+1/1 9+9/3"),
		arrivalsOf("5+3 4+3"),
		arrivalsOf("5+3 6+10001"),
		arrivalsOf("5+3 6+1/4"),
		drawArrivals(&r, 200, 4, 40),
		drawArrivals(&r, 201, 4, 40),
	}
}

func memorySpares() [][]int {
	return [][]int{nil, {0, 0, 0}, {0, 0, 0, 0}, {0, 1, 2, 3}, {0, 1, 0, 3}, {0, 1, 2, 65}, {0, 1, 2, 3, 4}}
}

func tellTry(circuits int, spare []int, calls []impl.Arrival) string {
	return fmt.Sprintln(impl.Try(circuits, spare, calls))
}

// P17: calls and spare numbers, and what each finds.
func TestTryMemory(t *testing.T) {
	for _, calls := range memoryCalls() {
		for _, spare := range memorySpares() {
			for _, circuits := range []int{-1, 0, 1, 4, 64} {
				want := tellTry(circuits, slices.Clip(slices.Clone(spare)), slices.Clip(slices.Clone(calls)))
				a, b := guard(0, spare), guard(impl.Arrival{Tick: 5, Hold: 1}, calls)
				found, busy, ok := impl.Try(circuits, a.list, b.list)
				told := fmt.Sprintln(found, busy, ok)
				second, counts, _ := impl.Try(circuits, a.list, b.list)
				scribble(found, true)
				scribble(busy, 4321)
				if told != want || fmt.Sprintln(second, counts, ok) != want || tellTry(circuits, a.list, b.list) != want {
					t.Errorf("Try(%d, %d, %s): shared, or another answer", circuits, spare, textOfArrivals(calls))
				}
				if !a.untouched() || !b.untouched() {
					t.Errorf("Try(%d, %d, %s): written into", circuits, spare, textOfArrivals(calls))
				}
				scribble(a.whole, 4321)
				scribble(b.whole, impl.Arrival{Tick: -7})
				if fmt.Sprintln(second, counts, ok) != want {
					t.Errorf("Try(%d, %d, %s): an argument is handed out", circuits, spare, textOfArrivals(calls))
				}
			}
		}
	}
}

// P17: calls, and those of them that are let in; where all are, in memory of
// their own too.
func TestShedMemory(t *testing.T) {
	for _, calls := range memoryCalls() {
		for _, room := range [][2]int{{0, 0}, {0, 1}, {5, 7}, {0, 200}, {9, 10000}, {10000, 0}, {-1, 3}, {3, 10001}} {
			list, fine := impl.Shed(slices.Clip(slices.Clone(calls)), room[0], room[1])
			want := slices.Clone(list)
			for _, mark := range []impl.Arrival{{}, {Tick: 5, Hold: 1}, {Class: 9}} {
				g := guard(mark, calls)
				first, ok := impl.Shed(g.list, room[0], room[1])
				second, _ := impl.Shed(g.list, room[0], room[1])
				scribble(first, impl.Arrival{Tick: -7})
				third, again := impl.Shed(g.list, room[0], room[1])
				if ok != fine || again != fine || !slices.Equal(second, want) || !slices.Equal(third, want) || !g.untouched() {
					t.Errorf("Shed(%s, %d): written into, shared, or another answer", textOfArrivals(calls), room)
				}
				scribble(g.whole, impl.Arrival{Tick: -7})
				if !slices.Equal(second, want) || !slices.Equal(third, want) {
					t.Errorf("Shed(%s, %d): an argument is handed out", textOfArrivals(calls), room)
				}
			}
		}
	}
}

func memoryQueues() [][][]int {
	return [][][]int{
		nil,
		rowsOf(""),
		rowsOf("1"),
		rowsOf("4 5 6"),
		rowsOf("1 2 3; ; 7 8"),
		numberedQueues(60, 60, 60, 60, 60, 60, 60, 60),
		numberedQueues(2, 61),
		numberedQueues(1, 2, 3, 4, 5, 6, 7, 8, 9),
	}
}

// P17: queues, and what is served of them; of one queue alone, in memory of its
// own too.
func TestFairMemory(t *testing.T) {
	for _, queues := range memoryQueues() {
		for _, turns := range []int{-1, 0, 1, 4, 480, 500, 501} {
			checkListMemory(t, fmt.Sprint("Fair in ", turns), queues, ownList, func(lists [][]int) ([]int, bool) {
				return impl.Fair(lists, turns)
			})
		}
	}
}

// P17: one list in several places is a queue in each.
func TestFairOfOneList(t *testing.T) {
	g := guard(7, []int{4, 5, 6})
	checkFair(t, [][]int{g.list, g.list[1:], g.list}, 500, []int{4, 5, 4, 5, 6, 5, 6, 6})
	if !g.untouched() {
		t.Error("written into")
	}
}

// P17: no call plays a part in what another one answers, nor do several at once.
func TestLoadKeepsNothing(t *testing.T) {
	tell := func(r *drawn) string {
		text := ""
		for i := range 7 {
			text += fmt.Sprintln(impl.Blocking(i, 20-i, i+1))
			text += fmt.Sprintln(impl.Needed17(i, 2, part(1, 10)))
			text += tellTry(4, memorySpares()[i], memoryCalls()[2])
			text += tellTry(4, memorySpares()[3], memoryCalls()[i])
			text += fmt.Sprintln(impl.Shed(memoryCalls()[i], 5, 8))
			text += fmt.Sprintln(impl.Fair(memoryQueues()[i], 9))
			impl.Blocking(r.below(10), r.below(22), r.below(12))
			impl.Needed17(r.below(22), r.below(12), part(r.below(50), r.below(50)))
			impl.Try(r.below(9), drawSpare(r, 5), drawArrivals(r, r.below(20), 3, 9))
			impl.Shed(drawArrivals(r, r.below(20), 3, 9), r.below(9), r.below(15))
			impl.Fair(numberedQueues(r.below(5), r.below(5)), r.below(9))
		}
		return text
	}
	checkToldAlike(t, 1708, tell)
}
