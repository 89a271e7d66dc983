package tests

import (
	"fmt"
	"math"
	"slices"
	"testing"

	"loop.example/g00052/impl"
)

// fairByTurns takes the first number off the next queue that has one, turn by
// turn.
func fairByTurns(queues [][]int, turns int) []int {
	left := slices.Clone(queues)
	var served []int
	at := 0
	for range turns {
		passed := 0
		for passed < len(left) && len(left[at]) == 0 {
			at = (at + 1) % len(left)
			passed++
		}
		if passed == len(left) {
			break
		}
		served = append(served, left[at][0])
		left[at] = left[at][1:]
		at = (at + 1) % len(left)
	}
	return served
}

func checkFair(t *testing.T, queues [][]int, turns int, want []int) {
	t.Helper()
	if got, ok := impl.Fair(queues, turns); !ok || !slices.Equal(got, want) {
		t.Errorf("Fair(%d, %d): %d and %t, not %d", queues, turns, got, ok, want)
	}
}

func checkSecondFair(t *testing.T, queues [][]int, turns int) {
	t.Helper()
	checkFair(t, queues, turns, fairByTurns(queues, turns))
}

func checkNoFair(t *testing.T, queues [][]int, turns int) {
	t.Helper()
	if got, ok := impl.Fair(queues, turns); ok || len(got) != 0 {
		t.Errorf("Fair of %d queues, %d: %d and %t", len(queues), turns, got, ok)
	}
}

// P17: known queues, with ";" between them.
func TestKnownFair(t *testing.T) {
	for _, c := range []struct {
		queues string
		turns  int
		want   string
	}{
		// One queue.
		{"", 0, ""},
		{"", 500, ""},
		{"1", 0, ""},
		{"1", 1, "1"},
		{"1", 9, "1"},
		{"3 1 2", 2, "3 1"},
		{"3 1 2", 3, "3 1 2"},
		// Around.
		{"1 2 3; 7 8", 0, ""},
		{"1 2 3; 7 8", 1, "1"},
		{"1 2 3; 7 8", 2, "1 7"},
		{"1 2 3; 7 8", 3, "1 7 2"},
		{"1 2 3; 7 8", 4, "1 7 2 8"},
		// One runs out, ahead of the others and behind them.
		{"1 2 3; 7 8", 5, "1 7 2 8 3"},
		{"1 2 3; 7 8", 6, "1 7 2 8 3"},
		{"7 8; 1 2 3 4", 6, "7 1 8 2 3 4"},
		{"7; 1 2 3 4", 4, "7 1 2 3"},
		{"5; 6; 1 2 3 4; 7 8", 8, "5 6 1 7 2 8 3 4"},
		{"5; 1 2 3; 6; 7 8 9", 8, "5 1 6 7 2 8 3 9"},
		// Empty queues cost no turn.
		{"1 2 3; ; 7 8", 4, "1 7 2 8"},
		{"; ; 1 2 3; ; 7 8; ;", 4, "1 7 2 8"},
		{"; 4", 1, "4"},
		{"4;", 1, "4"},
		{"; ; ; ; ; ; ; 5 6", 2, "5 6"},
		{"5 6; ; ; ; ; ; ;", 2, "5 6"},
		{"; ; ; ; ; ; ;", 500, ""},
		{";", 3, ""},
		// Numbers are whatever they are.
		{"0 0 -5; 0 9223372036854775807", 4, "0 0 0 9223372036854775807"},
		{"-9223372036854775808; -1 -1", 3, "-9223372036854775808 -1 -1"},
		{"7 7; 7 7", 3, "7 7 7"},
	} {
		queues, want := rowsOf(c.queues), numbersOf(c.want)
		checkFair(t, queues, c.turns, want)
		if told := fairByTurns(queues, c.turns); !slices.Equal(told, want) {
			t.Errorf("the second telling of %v is wrong: %d", c, told)
		}
	}
}

// numberedQueues have such lengths; each number tells its queue and place.
func numberedQueues(lengths ...int) [][]int {
	queues := make([][]int, len(lengths))
	for i, n := range lengths {
		for place := range n {
			queues[i] = append(queues[i], 100*(i+1)+place)
		}
	}
	return queues
}

// P17: all lengths of few queues, at all turns.
func TestFairOfAllLengths(t *testing.T) {
	for n := 1; n <= 4; n++ {
		everyMeasures(1, n, 5, func(rows [][]int) {
			lengths := slices.Clone(rows[0])
			for i := range lengths {
				lengths[i] = -lengths[i]
			}
			queues := numberedQueues(lengths...)
			for turns := range sumOf(lengths) + 3 {
				checkSecondFair(t, queues, turns)
			}
		})
	}
}

// checkServedFairly takes numbered queues: each gives its beginning, and none is
// served two times more than one that has something left.
func checkServedFairly(t *testing.T, queues [][]int, turns int) {
	t.Helper()
	served, ok := impl.Fair(queues, turns)
	all := 0
	for _, queue := range queues {
		all += len(queue)
	}
	if !ok || len(served) != min(turns, all) {
		t.Fatalf("Fair(%d, %d): %d and %t", queues, turns, served, ok)
	}
	counts := make([]int, len(queues))
	for _, number := range served {
		i := number/100 - 1
		if number%100 != counts[i] {
			t.Fatalf("Fair(%d, %d): %d, at %d", queues, turns, served, number)
		}
		counts[i]++
		for k, queue := range queues {
			if counts[k] < len(queue) && counts[i] >= counts[k]+2 {
				t.Fatalf("Fair(%d, %d): %d, at %d: queue %d waits", queues, turns, served, number, k)
			}
		}
	}
}

// P17: drawn queues.
func TestDrawnFair(t *testing.T) {
	r := drawn(1706)
	for range 3000 {
		lengths := make([]int, 1+r.below(8))
		most := 1 + r.below(61)
		for i := range lengths {
			lengths[i] = r.below(most)
		}
		queues, turns := numberedQueues(lengths...), r.below(1+min(500, sumOf(lengths)+20))
		checkSecondFair(t, queues, turns)
		checkServedFairly(t, queues, turns)
	}
}

// P17: with more turns more is served, behind the same beginning.
func TestFairOfMoreTurns(t *testing.T) {
	for _, lengths := range [][]int{{60, 60, 60, 60, 60, 60, 60, 60}, {0, 60, 3, 0, 59, 1, 60, 17}, {60}, {2, 60}} {
		queues := numberedQueues(lengths...)
		all := fairByTurns(queues, 480)
		for turns := range 501 {
			checkFair(t, queues, turns, all[:min(turns, len(all))])
		}
	}
}

// P17, P21: 1 to 8 queues.
func TestFairQueues(t *testing.T) {
	for n := range 20 {
		for _, length := range []int{0, 1, 2, 60} {
			queues := numberedQueues(slices.Repeat([]int{length}, n)...)
			for _, turns := range []int{0, 1, 7, 8, 9, 480, 500} {
				if n >= 1 && n <= 8 {
					checkSecondFair(t, queues, turns)
				} else {
					checkNoFair(t, queues, turns)
				}
			}
		}
	}
	checkNoFair(t, nil, 0)
	checkNoFair(t, [][]int{}, 1)
	checkNoFair(t, make([][]int, 1000), 1)
}

// P17, P21: at most 60 numbers in each, also in one that no turn comes to.
func TestFairLengths(t *testing.T) {
	for n := 1; n <= 8; n++ {
		for place := range n {
			for _, length := range []int{59, 60, 61, 62, 120, 1000} {
				lengths := slices.Repeat([]int{2}, n)
				lengths[place] = length
				queues := numberedQueues(lengths...)
				for _, turns := range []int{0, 1, 20, 75, 500} {
					if length <= 60 {
						checkSecondFair(t, queues, turns)
					} else {
						checkNoFair(t, queues, turns)
					}
				}
			}
		}
	}
}

// P17, P21: 0 to 500 turns.
func TestFairTurns(t *testing.T) {
	for _, queues := range [][][]int{rowsOf(""), rowsOf("1"), rowsOf("1 2;;3"), numberedQueues(60, 60, 60, 60, 60, 60, 60, 60)} {
		for _, turns := range []int{0, 1, 2, 479, 480, 481, 499, 500} {
			checkSecondFair(t, queues, turns)
		}
		for _, wrong := range outside(0, 500) {
			checkNoFair(t, queues, wrong)
		}
	}
}

// P17: numbers of any size, each at each place.
func TestFairNumbers(t *testing.T) {
	for _, number := range append([]int{0, -1, 1, 60, 61, math.MinInt, math.MaxInt}, farNumbers...) {
		for place := range 3 {
			queues := rowsOf("5 6 7; 8; 9 9")
			queues[0][place] = number
			for turns := range 8 {
				checkSecondFair(t, queues, turns)
			}
		}
		if got, ok := impl.Fair([][]int{{number}}, 1); !ok || fmt.Sprint(got) != fmt.Sprint([]int{number}) {
			t.Errorf("Fair of %d: %d and %t", number, got, ok)
		}
	}
}
