package tests

import (
	"fmt"
	"slices"
	"strconv"
	"strings"
	"testing"

	"loop.example/g00052/impl"
)

// rowsOf reads rows of numbers, with a ; between two rows: "10 1; 2 10".
func rowsOf(text string) [][]int {
	var rows [][]int
	for _, part := range strings.Split(text, ";") {
		rows = append(rows, numbersOf(part))
	}
	return rows
}

func numbersOf(text string) []int {
	var list []int
	for _, word := range strings.Fields(text) {
		n, err := strconv.Atoi(word)
		if err != nil {
			panic(err)
		}
		list = append(list, n)
	}
	return list
}

// measuresOf reads a row for each tick, of strengths that are written without
// their sign: "50 60; 70 55" is cell 0 at -50 and then -70, cell 1 at -60 and
// then -55. Without a text there is no tick.
func measuresOf(text string) [][]int {
	if text == "" {
		return nil
	}
	rows := rowsOf(text)
	for _, row := range rows {
		for cell := range row {
			row[cell] = -row[cell]
		}
	}
	return rows
}

// outside are numbers just past the ends, and far off.
func outside(least, most int) []int {
	list := []int{least - 1, least - 2, most + 1, most + 2}
	for _, x := range farNumbers {
		if x < least || x > most {
			list = append(list, x)
		}
	}
	return list
}

func copyOfRows(rows [][]int) [][]int {
	var other [][]int
	for _, row := range rows {
		other = append(other, slices.Clone(row))
	}
	return other
}

// withNumber is a copy with another number at a place.
func withNumber(rows [][]int, row, column, n int) [][]int {
	other := copyOfRows(rows)
	other[row][column] = n
	return other
}

// servingByRuns counts for each cell how long it has outdone the one that
// serves, anew from each tick at which one begins to.
func servingByRuns(measures [][]int, margin, dwell int) []int {
	var serving []int
	var runs [13]int
	cell := 0
	for tick, strengths := range measures {
		best, bestStrength := -1, -1000
		for other, strength := range strengths {
			by := strength - strengths[cell]
			if by > 0 && by >= margin {
				runs[other]++
			} else {
				runs[other] = 0
			}
			if (tick == 0 || runs[other] >= dwell) && strength > bestStrength {
				best, bestStrength = other, strength
			}
		}
		if best >= 0 {
			cell, runs = best, [13]int{}
		}
		serving = append(serving, cell)
	}
	return serving
}

func checkServing(t *testing.T, measures [][]int, margin, dwell int, want []int) {
	t.Helper()
	got, ok := impl.Serving(measures, margin, dwell)
	if !ok || !slices.Equal(got, want) {
		t.Errorf("Serving(%d, %d, %d): %d and %t, not %d", measures, margin, dwell, got, ok, want)
	}
}

func checkNoServing(t *testing.T, measures [][]int, margin, dwell int) {
	t.Helper()
	if got, ok := impl.Serving(measures, margin, dwell); ok || len(got) != 0 {
		t.Errorf("Serving(%d, %d, %d): %d and %t", measures, margin, dwell, got, ok)
	}
}

func TestRadioConstants(t *testing.T) {
	if impl.MaxRadio != 12 || impl.MaxTicks16 != 200 {
		t.Error(impl.MaxRadio, impl.MaxTicks16)
	}
}

type servingCase struct {
	measures      string
	margin, dwell int
	want          string
}

func checkServingCases(t *testing.T, list []servingCase) {
	t.Helper()
	for _, c := range list {
		measures, want := measuresOf(c.measures), numbersOf(c.want)
		checkServing(t, measures, c.margin, c.dwell, want)
		if told := servingByRuns(measures, c.margin, c.dwell); !slices.Equal(told, want) {
			t.Errorf("the second telling of %v is wrong: %d", c, told)
		}
	}
}

// P16: at the first tick the strongest serves, of some the first, whatever
// margin and dwell are.
func TestServingBegins(t *testing.T) {
	for _, margin := range []int{0, 1, 60} {
		for _, dwell := range []int{1, 2, 20} {
			checkServingCases(t, []servingCase{
				{"", margin, dwell, ""},
				{"50", margin, dwell, "0"},
				{"0", margin, dwell, "0"},
				{"120", margin, dwell, "0"},
				{"50 60", margin, dwell, "0"},
				{"60 50", margin, dwell, "1"},
				{"51 50", margin, dwell, "1"},
				{"50 50", margin, dwell, "0"},
				{"60 50 50", margin, dwell, "1"},
				{"60 55 50", margin, dwell, "2"},
				{"50 60 50", margin, dwell, "0"},
				{"120 120 119 120", margin, dwell, "2"},
				{"120 120 120 0", margin, dwell, "3"},
				{"9 9 9 9 9 9 9 9 9 9 9 8", margin, dwell, "11"},
				{"9 9 9 9 9 9 9 9 9 9 9 9", margin, dwell, "0"},
			})
		}
	}
}

// P16: a cell takes over that was stronger for just so many ticks.
func TestServingDwell(t *testing.T) {
	checkServingCases(t, []servingCase{
		{"60 70; 60 50", 5, 1, "0 1"},
		{"60 70; 60 50", 5, 2, "0 0"},
		{"60 70; 60 50; 60 50", 5, 2, "0 0 1"},
		{"60 70; 60 50; 60 70", 5, 2, "0 0 0"},
		{"60 70; 60 50; 60 50; 60 50", 5, 3, "0 0 0 1"},
		{"60 70; 60 50; 60 50; 60 70", 5, 3, "0 0 0 0"},
		{"60 70; 60 50; 60 50; 60 50", 5, 4, "0 0 0 0"},
		// What lay between makes it begin anew.
		{"60 70; 60 50; 60 50; 60 70; 60 50; 60 50; 60 50", 5, 3, "0 0 0 0 0 0 1"},
		{"60 70; 60 50; 60 56; 60 50; 60 50", 5, 2, "0 0 0 0 1"},
		{"60 70; 60 70; 60 70; 60 50; 60 50", 5, 2, "0 0 0 0 1"},
		// It is the cell that serves against which each tick is held.
		{"60 70; 60 55; 50 45; 40 35", 5, 3, "0 0 0 1"},
		{"60 70; 60 55; 50 46; 40 35", 5, 3, "0 0 0 0"},
		// Back again.
		{"60 70; 60 50; 50 60; 60 50", 5, 1, "0 1 0 1"},
		{"60 70; 60 50; 60 50; 50 60; 50 60; 50 60", 5, 2, "0 0 1 1 0 0"},
		// No cell alone outdid it at each of the ticks.
		{"60 70 70; 60 50 70; 60 70 50; 60 50 70", 5, 2, "0 0 0 0"},
	})
	long := "60 70" + strings.Repeat("; 60 50", 20)
	checkServingCases(t, []servingCase{
		{long, 5, 20, strings.Repeat("0 ", 20) + "1"},
		{long, 5, 19, strings.Repeat("0 ", 19) + "1 1"},
		{"60 70" + strings.Repeat("; 60 50", 19), 5, 20, strings.Repeat("0 ", 20)},
		{"60 70; 60 70" + strings.Repeat("; 60 50", 19), 5, 20, strings.Repeat("0 ", 21)},
		{"60 70; 60 70" + strings.Repeat("; 60 50", 20), 5, 20, strings.Repeat("0 ", 21) + "1"},
	})
}

// P16: by the margin, and by one less; without one it must be stronger still.
func TestServingMargin(t *testing.T) {
	checkServingCases(t, []servingCase{
		{"60 70; 60 55", 5, 1, "0 1"},
		{"60 70; 60 56", 5, 1, "0 0"},
		{"60 70; 60 55; 60 55", 5, 2, "0 0 1"},
		{"60 70; 60 55; 60 56", 5, 2, "0 0 0"},
		{"60 70; 60 56; 60 55", 5, 2, "0 0 0"},
		{"60 70; 60 60", 0, 1, "0 0"},
		{"60 70; 60 59", 0, 1, "0 1"},
		{"60 70; 60 61", 0, 1, "0 0"},
		{"60 60; 60 60; 60 60", 0, 1, "0 0 0"},
		{"60 60; 60 59; 60 60", 0, 1, "0 1 1"},
		{"60 60; 60 59; 60 60", 0, 2, "0 0 0"},
		{"60 60; 60 59; 60 59", 0, 2, "0 0 1"},
		{"60 60; 60 60; 60 59", 0, 2, "0 0 0"},
		{"70 60; 60 60", 0, 1, "1 1"},
		{"60 70; 60 60", 1, 1, "0 0"},
		{"60 70; 60 59", 1, 1, "0 1"},
		{"60 70; 60 59", 2, 1, "0 0"},
		{"60 70; 60 58", 2, 1, "0 1"},
		{"60 70; 60 0", 60, 1, "0 1"},
		{"60 70; 60 1", 60, 1, "0 0"},
		{"0 120; 120 60", 60, 1, "0 1"},
		{"0 120; 120 61", 60, 1, "0 0"},
		{"0 120; 120 0; 0 120; 120 0", 60, 1, "0 1 0 1"},
	})
}

// P16: ticks count that stand behind the one at which the cell that serves
// began to, and no others.
func TestServingCountsFromItsTick(t *testing.T) {
	checkServingCases(t, []servingCase{
		// Cell 2 outdoes cell 1 from the tick on at which that begins.
		{"50 60 90; 60 55 90; 70 55 40; 70 55 40; 70 55 40", 3, 2, "0 0 1 1 2"},
		{"50 60 90; 60 55 90; 70 55 40; 70 55 40; 70 55 90", 3, 2, "0 0 1 1 1"},
		{"50 60 90; 60 55 90; 70 55 40; 70 55 90; 70 55 40; 70 55 40", 3, 2, "0 0 1 1 1 2"},
		// With a dwell of 3 it outdoes it from one tick ahead of that on.
		{"50 60 90; 60 55 90; 60 55 40; 60 55 40; 60 55 40; 60 55 40; 60 55 40", 3, 3, "0 0 0 1 1 1 2"},
		{"50 60 90; 60 55 90; 60 55 40; 60 55 40; 60 55 40; 60 55 40; 60 55 90", 3, 3, "0 0 0 1 1 1 1"},
		// With a dwell of 1 the tick itself is enough, and the next one too.
		{"50 60 90; 60 50 90; 60 50 40; 60 30 40", 3, 1, "0 1 2 1"},
		// As strong at the tick at which a cell begins, the first one.
		{"50 50; 60 50; 60 50", 0, 2, "0 0 1"},
		{"50 60; 60 50; 60 50; 50 60; 50 60; 60 50; 60 50", 0, 2, "0 0 1 1 0 0 1"},
		// A change does not wait for longer than that.
		{"50 60; 60 50; 60 50; 50 60; 50 60; 60 50; 60 50", 0, 1, "0 1 1 0 0 1 1"},
	})
}

// P16: of several that could take over at one tick it is the strongest then.
func TestServingOfSeveral(t *testing.T) {
	checkServingCases(t, []servingCase{
		{"50 60 60; 60 40 50", 3, 1, "0 1"},
		{"50 60 60; 60 50 40", 3, 1, "0 2"},
		{"50 60 60; 60 40 40", 3, 1, "0 1"},
		{"60 50 60; 40 60 40", 3, 1, "1 0"},
		{"60 60 50; 41 40 60", 3, 1, "2 1"},
		// It plays no part how strong they were ahead of it.
		{"50 60 60; 60 10 50; 60 50 40", 3, 2, "0 0 2"},
		{"50 60 60; 60 50 10; 60 40 50", 3, 2, "0 0 1"},
		{"50 60 60; 60 50 10; 60 40 40", 3, 2, "0 0 1"},
		{"50 60 60; 60 40 50; 60 40 50", 3, 2, "0 0 1"},
		// The strongest of all has not been so for long enough.
		{"50 60 60; 60 50 60; 60 50 10", 3, 2, "0 0 1"},
		{"50 60 60; 60 60 50; 60 10 50", 3, 2, "0 0 2"},
		{"50 60 60; 60 58 50; 60 10 50", 3, 2, "0 0 2"},
		{"50 60 60; 60 57 50; 60 10 50", 3, 2, "0 0 1"},
		{"50 60 60 60; 60 60 50 50; 60 10 50 50", 3, 2, "0 0 2"},
		{"50 60 60 60; 60 60 50 50; 60 10 50 49", 3, 2, "0 0 3"},
	})
}

// everyMeasures visits all measures of so many ticks and cells out of so few
// strengths.
func everyMeasures(ticks, cells, few int, visit func(measures [][]int)) {
	list := make([]int, ticks*cells)
	var measures [][]int
	for tick := range ticks {
		measures = append(measures, list[tick*cells:(tick+1)*cells])
	}
	for {
		visit(measures)
		at := 0
		for at < len(list) && list[at] == 1-few {
			list[at] = 0
			at++
		}
		if at == len(list) {
			return
		}
		list[at]--
	}
}

// P16: all measures of few ticks and cells.
func TestServingOfAllSmallMeasures(t *testing.T) {
	for _, size := range []struct{ ticks, cells, few int }{{5, 2, 3}, {3, 3, 3}, {8, 2, 2}, {5, 3, 2}, {4, 4, 2}} {
		everyMeasures(size.ticks, size.cells, size.few, func(measures [][]int) {
			for margin := range size.few {
				for dwell := 1; dwell < size.ticks; dwell++ {
					want := servingByRuns(measures, margin, dwell)
					if got, ok := impl.Serving(measures, margin, dwell); !ok || !slices.Equal(got, want) {
						t.Fatalf("Serving(%d, %d, %d): %d and %t, not %d", measures, margin, dwell, got, ok, want)
					}
				}
			}
		})
	}
}

// drawMeasures has strengths that stay for a while, so that cells take over
// after a long dwell too.
func drawMeasures(r *drawn, ticks, cells, spread, stay int) [][]int {
	var measures [][]int
	now := make([]int, cells)
	for tick := range ticks {
		for cell := range now {
			if tick == 0 || r.below(stay) == 0 {
				now[cell] = -r.below(spread)
			}
		}
		measures = append(measures, slices.Clone(now))
	}
	return measures
}

// changesApart tells how often and how near to each other the changes are.
func changesApart(serving []int) (count, nearest int) {
	last := -1
	for tick := range serving {
		if tick > 0 && serving[tick] != serving[tick-1] {
			if last >= 0 && (nearest == 0 || tick-last < nearest) {
				nearest = tick - last
			}
			count, last = count+1, tick
		}
	}
	return count, nearest
}

// P16: drawn measures: one cell serves at each tick, and it never changes twice
// within the dwell.
func TestDrawnServing(t *testing.T) {
	r := drawn(1601)
	var just, changed [21]int
	for range 20000 {
		ticks, cells, spread := r.below(201), 1+r.below(12), 1+r.below(121)
		measures := drawMeasures(&r, ticks, cells, spread, 1+r.below(40))
		margin, dwell := r.below(1+min(60, spread/2)), 1+r.below(20)
		serving, ok := impl.Serving(measures, margin, dwell)
		if want := servingByRuns(measures, margin, dwell); !ok || !slices.Equal(serving, want) {
			t.Fatalf("Serving(%d, %d, %d): %d and %t, not %d", measures, margin, dwell, serving, ok, want)
		}
		for _, cell := range serving {
			if cell < 0 || cell >= cells {
				t.Fatalf("Serving(%d, %d, %d): no cell: %d", measures, margin, dwell, serving)
			}
		}
		count, nearest := changesApart(serving)
		if count >= 2 && nearest < dwell {
			t.Errorf("Serving(%d, %d, %d): twice within the dwell: %d", measures, margin, dwell, serving)
		}
		changed[dwell] += count
		if nearest == dwell {
			just[dwell]++
		}
	}
	for dwell := 1; dwell <= 20; dwell++ {
		if just[dwell] == 0 || changed[dwell] < 50 {
			t.Errorf("a dwell of %d: %d changes, %d times just as near as may be", dwell, changed[dwell], just[dwell])
		}
	}
}

// P16, P21: 0 to MaxTicks16 ticks of 1 to MaxRadio cells.
func TestServingSizes(t *testing.T) {
	r := drawn(1602)
	for ticks := range 420 {
		for _, cells := range []int{1, 2, 11, 12, 13, 14, 30} {
			measures := drawMeasures(&r, ticks, cells, 121, 5)
			if ticks <= 200 && cells <= 12 || ticks == 0 {
				checkServing(t, measures, 3, 2, servingByRuns(measures, 3, 2))
			} else {
				checkNoServing(t, measures, 3, 2)
			}
		}
		none := make([][]int, ticks)
		if ticks == 0 {
			checkServing(t, none, 0, 1, nil)
		} else {
			checkNoServing(t, none, 0, 1)
		}
	}
	checkServing(t, [][]int{}, 60, 20, nil)
	checkNoServing(t, [][]int{{}}, 0, 1)
	checkNoServing(t, [][]int{{}, {}}, 0, 1)
}

// P16: lists that are not as long as one another, at each tick.
func TestServingOfUnlikeLists(t *testing.T) {
	for _, ticks := range []int{2, 3, 200} {
		for _, cells := range []int{1, 2, 11, 12} {
			for tick := range ticks {
				for _, other := range []int{0, 1, cells - 1, cells + 1, 12, 13} {
					if other == cells {
						continue
					}
					measures := slices.Repeat([][]int{make([]int, cells)}, ticks)
					measures[tick] = make([]int, other)
					checkNoServing(t, measures, 3, 1)
				}
				measures := slices.Repeat([][]int{make([]int, cells)}, ticks)
				measures[tick] = nil
				checkNoServing(t, measures, 3, 1)
			}
		}
	}
}

// P16, P21: each strength in -120 .. 0, at each tick and of each cell.
func TestServingStrengths(t *testing.T) {
	for _, size := range [][2]int{{1, 1}, {2, 1}, {1, 2}, {3, 4}, {200, 12}} {
		measures := slices.Repeat([][]int{slices.Repeat([]int{-60}, size[1])}, size[0])
		for tick := range size[0] {
			for cell := range size[1] {
				for _, right := range []int{-120, -119, -1, 0} {
					other := withNumber(measures, tick, cell, right)
					checkServing(t, other, 1, 1, servingByRuns(other, 1, 1))
				}
				for _, wrong := range []int{-121, 1} {
					checkNoServing(t, withNumber(measures, tick, cell, wrong), 1, 1)
				}
			}
		}
	}
	measures := measuresOf("50 60 70; 70 60 50; 50 60 70")
	for tick := range 3 {
		for cell := range 3 {
			for _, wrong := range append(outside(-120, 0), 50, 120) {
				checkNoServing(t, withNumber(measures, tick, cell, wrong), 1, 1)
			}
		}
	}
}

// P16, P21: a margin in 0 .. 60, a dwell in 1 .. 20, also where they play no
// part.
func TestServingNumbers(t *testing.T) {
	r := drawn(1603)
	for _, measures := range [][][]int{nil, measuresOf("50"), measuresOf("50 60; 60 50"), drawMeasures(&r, 200, 12, 121, 6)} {
		for margin := range 61 {
			for dwell := 1; dwell <= 20; dwell++ {
				checkServing(t, measures, margin, dwell, servingByRuns(measures, margin, dwell))
			}
			for _, wrong := range outside(1, 20) {
				checkNoServing(t, measures, margin, wrong)
			}
		}
		for _, wrong := range outside(0, 60) {
			for _, dwell := range []int{0, 1, 2, 20, 21} {
				checkNoServing(t, measures, wrong, dwell)
			}
		}
	}
}

// changesByRuns cuts the list where another one begins to serve.
func changesByRuns(serving []int) (int, int) {
	var runs []int
	for i := 0; i < len(serving); {
		n := 1
		for i+n < len(serving) && serving[i+n] == serving[i] {
			n++
		}
		runs = append(runs, n)
		i += n
	}
	if len(runs) == 0 {
		return 0, 0
	}
	if len(runs) < 3 {
		return len(runs) - 1, 0
	}
	return len(runs) - 1, slices.Min(runs[1 : len(runs)-1])
}

func checkChanges(t *testing.T, serving []int, count, fewest int) {
	t.Helper()
	if a, b := impl.Changes(serving); a != count || b != fewest {
		t.Errorf("Changes(%d): %d and %d, not %d and %d", serving, a, b, count, fewest)
	}
}

// P16: known changes.
func TestKnownChanges(t *testing.T) {
	for _, c := range []struct {
		serving       string
		count, fewest int
	}{
		{"", 0, 0},
		{"0", 0, 0},
		{"7", 0, 0},
		{"0 0", 0, 0},
		{"3 3 3 3 3", 0, 0},
		{"0 1", 1, 0},
		{"1 0", 1, 0},
		{"0 0 0 1 1", 1, 0},
		{"0 1 0", 2, 1},
		{"0 1 2", 2, 1},
		{"0 0 0 1 1 0 0 0", 2, 2},
		{"0 1 1 1 1 0", 2, 4},
		{"0 1 1 1 1 2", 2, 4},
		// What stands ahead of the first and behind the last is none of them.
		{"0 1 1 1 0", 2, 3},
		{"0 1 1 1 0 0", 2, 3},
		{"0 0 1 1 1 0", 2, 3},
		{"0 0 1 1 1 0 0 0 1", 3, 3},
		{"0 0 1 1 1 0 0 2", 3, 2},
		{"0 0 1 1 0 0 0 2", 3, 2},
		{"0 1 1 1 0 0 1 1 1 1 0", 4, 2},
		{"0 1 1 1 0 0 0 1 1 0", 4, 2},
		{"0 1 1 0 0 0 1 1 1 0", 4, 2},
		{"0 1 0 1 0 1", 5, 1},
		{"5 5 9 9 9 9 -1 -1 -1 5", 3, 3},
	} {
		checkChanges(t, numbersOf(c.serving), c.count, c.fewest)
		if a, b := changesByRuns(numbersOf(c.serving)); a != c.count || b != c.fewest {
			t.Errorf("the second telling of %v is wrong: %d and %d", c, a, b)
		}
	}
}

// P16: all lists of up to eight ticks.
func TestChangesOfAllSmallLists(t *testing.T) {
	for n := range 9 {
		everyMeasures(1, n, 3, func(lists [][]int) {
			count, fewest := changesByRuns(lists[0])
			checkChanges(t, lists[0], count, fewest)
		})
	}
}

// P16: lists as long as you like, of whatever numbers.
func TestChangesOfAnyNumbers(t *testing.T) {
	r := drawn(1604)
	for range 3000 {
		var serving []int
		for range r.below(30) {
			cell := append(farNumbers, 0, 1, 11, 12)[r.below(len(farNumbers)+4)]
			serving = append(serving, slices.Repeat([]int{cell}, 1+r.below(60))...)
		}
		count, fewest := changesByRuns(serving)
		checkChanges(t, serving, count, fewest)
	}
	long := append(slices.Repeat([]int{4}, 100000), slices.Repeat([]int{5}, 30000)...)
	checkChanges(t, long, 1, 0)
	checkChanges(t, append(long, 4), 2, 30000)
}

// P16: of what serves, Changes tells what the dwell keeps apart.
func TestChangesOfServing(t *testing.T) {
	r := drawn(1605)
	for dwell := 1; dwell <= 20; dwell++ {
		for range 100 {
			serving, _ := impl.Serving(drawMeasures(&r, 200, 4, 30, 15), 2, dwell)
			count, fewest := changesApart(serving)
			checkChanges(t, serving, count, fewest)
			if a, b := impl.Changes(serving); a >= 2 && b < dwell {
				t.Errorf("%s: %d within a dwell of %d", fmt.Sprint(serving), b, dwell)
			}
		}
	}
}
