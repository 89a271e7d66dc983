package tests

import (
	"fmt"
	"slices"
	"strings"
	"testing"

	"loop.example/g00052/impl"
)

// arrivalsOf reads calls as the tick, how long each lasts and its Class: "5+3/2"
// comes at 5, lasts 3 ticks and is of Class 2; "5+3" is of Class 0.
func arrivalsOf(text string) []impl.Arrival {
	var list []impl.Arrival
	for _, word := range strings.Fields(text) {
		times, class, classed := strings.Cut(word, "/")
		if !classed {
			class = "0"
		}
		var a impl.Arrival
		mustScan(times+"/"+class, "%d+%d/%d", &a.Tick, &a.Hold, &a.Class)
		list = append(list, a)
	}
	return list
}

func textOfArrivals(list []impl.Arrival) string {
	var words []string
	for _, a := range list {
		words = append(words, fmt.Sprintf("%d+%d/%d", a.Tick, a.Hold, a.Class))
	}
	return strings.Join(words, " ")
}

// tryByPairs holds each call against all ahead of it: those that found a circuit
// and still have it are busy.
func tryByPairs(circuits int, spare []int, list []impl.Arrival) (string, []int) {
	text, busy := "", make([]int, len(list))
	for i, a := range list {
		for k, ahead := range list[:i] {
			if text[k] == 'y' && a.Tick-ahead.Tick < ahead.Hold {
				busy[i]++
			}
		}
		if busy[i]+spare[a.Class] < circuits {
			text += "y"
			busy[i]++
		} else {
			text += "n"
		}
	}
	return text, busy
}

func checkTry(t *testing.T, circuits int, spare []int, list []impl.Arrival, want string, wantBusy []int) {
	t.Helper()
	found, busy, ok := impl.Try(circuits, spare, list)
	if !ok || letters(found) != want || !slices.Equal(busy, wantBusy) {
		t.Errorf("Try(%d, %d, %s): %s, %d and %t, not %s and %d", circuits, spare, textOfArrivals(list), letters(found), busy, ok, want, wantBusy)
	}
}

func checkSecondTry(t *testing.T, circuits int, spare []int, list []impl.Arrival) {
	t.Helper()
	want, wantBusy := tryByPairs(circuits, spare, list)
	checkTry(t, circuits, spare, list, want, wantBusy)
}

func checkNoTry(t *testing.T, circuits int, spare []int, list []impl.Arrival) {
	t.Helper()
	if found, busy, ok := impl.Try(circuits, spare, list); ok || len(found) != 0 || len(busy) != 0 {
		t.Errorf("Try(%d, %d, %s): %s, %d and %t", circuits, spare, textOfArrivals(list), letters(found), busy, ok)
	}
}

// P17: known calls.
func TestKnownTries(t *testing.T) {
	for _, c := range []struct {
		circuits int
		spare    string
		calls    string
		want     string
		busy     string
	}{
		{0, "0 0 0 0", "", "", ""},
		{64, "0 64 64 64", "", "", ""},
		// No circuits.
		{0, "0 0 0 0", "0+0 0+5 9+1/3", "nnn", "0 0 0"},
		{0, "0 1 1 64", "7+7/2", "n", "0"},
		{1, "0 0 0 0", "5+3", "y", "1"},
		// Free again at just the tick of the next call, one tick later, and earlier.
		{1, "0 0 0 0", "5+3 8+3", "yy", "1 1"},
		{1, "0 0 0 0", "5+3 7+3", "yn", "1 1"},
		{1, "0 0 0 0", "5+4 8+3", "yn", "1 1"},
		{1, "0 0 0 0", "5+3 9+3", "yy", "1 1"},
		{1, "0 0 0 0", "5+3 7+3 8+1 9+1", "ynyy", "1 1 1 1"},
		{2, "0 0 0 0", "5+3 8+3", "yy", "1 1"},
		{2, "0 0 0 0", "5+3 7+3 8+3", "yyy", "1 2 2"},
		{2, "0 0 0 0", "5+3 7+3 7+9 8+3 9+1 10+1", "yynyny", "1 2 2 2 2 2"},
		// A later call may be over first.
		{2, "0 0 0 0", "0+10 1+2 2+5 3+5 8+1", "yynyy", "1 2 2 2 2"},
		{2, "0 0 0 0", "0+10 1+2 12+1", "yyy", "1 2 1"},
		{3, "0 0 0 0", "0+9 1+6 2+3 5+0 6+0 7+0 9+0", "yyyyyyy", "1 2 3 3 3 2 1"},
		// A refused call takes nothing.
		{1, "0 0 0 0", "0+5 1+9 5+1", "yny", "1 1 1"},
		{1, "0 0 0 0", "0+5 4+10000 4+10000 5+1 5+1", "ynnyn", "1 1 1 1 1"},
		// Hold 0: it takes a circuit, which is free for the next call at the same tick.
		{1, "0 0 0 0", "3+0 3+0 3+0", "yyy", "1 1 1"},
		{1, "0 0 0 0", "3+0 3+1 3+0 4+0", "yyny", "1 1 1 1"},
		{2, "0 0 0 0", "3+0 3+0 3+1 3+0 3+0", "yyyyy", "1 1 1 2 2"},
		{2, "0 1 1 1", "3+0 3+0/1 3+1/1 3+0/1 3+0", "yyyny", "1 1 1 1 2"},
		{2, "0 0 0 0", "0+0 0+5 0+0 0+5 0+0", "yyyyn", "1 1 2 2 2"},
		// Alike Ticks.
		{2, "0 0 0 0", "3+5 3+5 3+5 3+5", "yynn", "1 2 2 2"},
		{2, "0 0 0 0", "3+1 3+1 3+1 4+1 4+1 4+1", "yynyyn", "1 2 2 1 2 2"},
		// Each Class with its spare circuits, met and missed by one.
		{3, "0 1 2 2", "0+10 1+10/1 2+1/1 3+5 10+0/2", "yynyn", "1 2 2 3 1"},
		{4, "0 1 2 3", "0+9/3 0+9/3", "yn", "1 1"},
		{4, "0 1 2 3", "0+9/3 0+9/2 0+9/2", "yyn", "1 2 2"},
		{4, "0 1 2 3", "0+9/3 0+9/2 0+9/1 0+9/1", "yyyn", "1 2 3 3"},
		{4, "0 1 2 3", "0+9/3 0+9/2 0+9/1 0+9 0+9", "yyyyn", "1 2 3 4 4"},
		{4, "0 0 2 2", "0+9 0+9 0+9/2 0+9/3 0+9/1 0+9/1 0+9/1", "yynnyyn", "1 2 2 2 3 4 4"},
		{3, "0 3 3 3", "0+9/1 0+9/2 0+9/3 0+9", "nnny", "0 0 0 1"},
		{3, "0 2 3 4", "0+9/1 0+9/2 0+9/3", "ynn", "1 1 1"},
		{3, "0 64 64 64", "0+9/1 0+9", "ny", "0 1"},
		{64, "0 63 64 64", "0+9/2 0+9/3 0+9/1 0+9/1 0+9", "nnyny", "0 0 1 1 2"},
		// Spare circuits that are free again.
		{2, "0 1 1 1", "0+5/1 4+5/1 5+5/1", "yny", "1 1 1"},
		{2, "0 1 1 1", "0+5 1+5 4+1/1 5+1/1 6+1/1", "yynny", "1 2 2 1 1"},
		// The greatest ticks.
		{1, "0 0 0 0", "999999999+1 1000000000+10000 1000000000+10000", "yyn", "1 1 1"},
		{1, "0 0 0 0", "999990000+10000 999999999+0 1000000000+1", "yny", "1 1 1"},
		{1, "0 0 0 0", "0+10000 9999+1 10000+1", "yny", "1 1 1"},
	} {
		spare, calls := numbersOf(c.spare), arrivalsOf(c.calls)
		checkTry(t, c.circuits, spare, calls, c.want, numbersOf(c.busy))
		if told, busy := tryByPairs(c.circuits, spare, calls); told != c.want || !slices.Equal(busy, numbersOf(c.busy)) {
			t.Errorf("the second telling of %v is wrong: %s %d", c, told, busy)
		}
	}
}

// everyArrivals visits all lists of n calls from few steps on, few holds and
// classes; the list is one and the same.
func everyArrivals(n, steps, holds, classes int, visit func(list []impl.Arrival)) {
	list := make([]impl.Arrival, n)
	var put func(at, tick int)
	put = func(at, tick int) {
		if at == n {
			visit(list)
			return
		}
		for step := range steps {
			for hold := range holds {
				for class := range classes {
					list[at] = impl.Arrival{Tick: tick + step, Hold: hold, Class: class}
					put(at+1, tick+step)
				}
			}
		}
	}
	put(0, 0)
}

// P17: all lists of few calls.
func TestTryOfAllSmallLists(t *testing.T) {
	spares := [][]int{{0, 0, 0, 0}, {0, 1, 1, 1}, {0, 1, 2, 2}, {0, 0, 1, 3}}
	for n := range 4 {
		everyArrivals(n, 3, 3, 3, func(list []impl.Arrival) {
			for circuits := range 4 {
				for _, spare := range spares {
					checkSecondTry(t, circuits, spare, list)
				}
			}
		})
	}
	everyArrivals(5, 2, 3, 1, func(list []impl.Arrival) {
		for circuits := range 4 {
			checkSecondTry(t, circuits, spares[0], list)
		}
	})
}

func drawSpare(r *drawn, most int) []int {
	spare := []int{0, r.below(most + 1), r.below(most + 1), r.below(most + 1)}
	slices.Sort(spare)
	return spare
}

func drawArrivals(r *drawn, n, gap, hold int) []impl.Arrival {
	var list []impl.Arrival
	tick := r.below(100)
	for range n {
		list = append(list, impl.Arrival{Tick: tick, Hold: r.below(hold), Class: r.below(4)})
		tick += r.below(gap)
	}
	return list
}

// P17: drawn calls: who is refused found too few free, and without spare
// circuits nobody is while one is.
func TestDrawnTries(t *testing.T) {
	r := drawn(1701)
	told := map[bool]int{}
	for range 4000 {
		circuits, spare := r.below(65), drawSpare(&r, 1+r.below(64))
		if r.below(3) == 0 {
			spare = make([]int, 4)
		}
		gap := 1 + r.below(30)
		list := drawArrivals(&r, r.below(201), gap, 1+r.below(1+gap*(circuits+4)))
		checkSecondTry(t, circuits, spare, list)
		found, busy, _ := impl.Try(circuits, spare, list)
		for i, in := range found {
			if !in && circuits-busy[i] > spare[list[i].Class] {
				t.Fatalf("Try(%d, %d, %s): refused at %d though %d are free", circuits, spare, textOfArrivals(list), i, circuits-busy[i])
			}
			if in && circuits-busy[i] < spare[list[i].Class] || busy[i] > circuits {
				t.Fatalf("Try(%d, %d, %s): found at %d, %d busy", circuits, spare, textOfArrivals(list), i, busy[i])
			}
			told[in]++
		}
	}
	if told[true] < 10000 || told[false] < 10000 {
		t.Error("too few are refused, or not", told)
	}
}

// P17: a beginning of the calls is told alike.
func TestTryOfBeginnings(t *testing.T) {
	r := drawn(1702)
	for range 20 {
		circuits, spare := r.below(12), drawSpare(&r, 6)
		list := drawArrivals(&r, 200, 4, 30)
		found, busy, _ := impl.Try(circuits, spare, list)
		for n := range 201 {
			checkTry(t, circuits, spare, list[:n], letters(found[:n]), busy[:n])
		}
	}
}

// P17: each Class takes all but its spare circuits, at every number of both; the
// Class ahead of it, which has none to spare, finds one all the same.
func TestTryByClass(t *testing.T) {
	for circuits := range 65 {
		for spare := range 65 {
			for class := 1; class < 4; class++ {
				spares := []int{0, 0, 0, 0}
				for k := class; k < 4; k++ {
					spares[k] = spare
				}
				calls := slices.Repeat([]impl.Arrival{{Tick: 5, Hold: 1, Class: class}}, 66)
				_, busy, ok := impl.Try(circuits, spares, calls)
				if most := max(0, circuits-spare); !ok || busy[65] != most {
					t.Errorf("%d circuits, %d spare for Class %d: %d busy, not %d", circuits, spare, class, busy[65], most)
				}
				calls[0].Class = class - 1
				if found, _, _ := impl.Try(circuits, spares, calls); found[0] != (circuits > 0) {
					t.Errorf("%d circuits, %d spare for Class %d: %t of the one ahead", circuits, spare, class, found[0])
				}
			}
		}
	}
}
