package tests

import (
	"slices"
	"testing"

	"loop.example/g00052/impl"
)

// withArrival has one call changed, at a place.
func withArrival(list []impl.Arrival, place int, change func(a *impl.Arrival)) []impl.Arrival {
	other := slices.Clone(list)
	change(&other[place])
	return other
}

// P17, P21: 0 to 64 circuits, all of which are found.
func TestTryCircuits(t *testing.T) {
	calls := slices.Repeat([]impl.Arrival{{Tick: 9, Hold: 9}}, 70)
	for circuits := range 65 {
		checkSecondTry(t, circuits, make([]int, 4), calls)
		checkSecondTry(t, circuits, []int{0, 64, 64, 64}, calls)
		checkTry(t, circuits, make([]int, 4), nil, "", nil)
	}
	for _, wrong := range outside(0, 64) {
		checkNoTry(t, wrong, make([]int, 4), calls)
		checkNoTry(t, wrong, make([]int, 4), nil)
		checkNoTry(t, wrong, []int{0, 64, 64, 64}, calls)
	}
}

// P17, P21: four spare numbers in 0 .. 64, the first 0, none below the one ahead;
// also where no call is of the Class, and without calls.
func TestTrySpare(t *testing.T) {
	calls := arrivalsOf("1+9 2+9/1 3+9/2 4+9/3")
	for _, text := range []string{
		"0 0 0 0", "0 0 0 1", "0 0 1 1", "0 1 1 1", "0 1 2 3", "0 5 5 7", "0 64 64 64", "0 0 0 64", "0 63 63 64", "0 0 64 64",
	} {
		for _, circuits := range []int{0, 1, 2, 3, 4, 63, 64} {
			checkSecondTry(t, circuits, numbersOf(text), calls)
			checkTry(t, circuits, numbersOf(text), nil, "", nil)
		}
	}
	for _, text := range []string{
		// Not four.
		"", "0", "0 0", "0 0 0", "0 0 0 0 0", "0 1 2 3 4", "0 1 2 3 4 5 6 7",
		// The first is not 0.
		"1 1 1 1", "1 2 3 4", "-1 0 0 0", "64 64 64 64", "2 3 3 3",
		// They fall.
		"0 1 0 0", "0 1 0 1", "0 0 1 0", "0 2 1 2", "0 2 1 1", "0 3 2 1", "0 1 3 2", "0 64 63 64", "0 0 64 63", "0 1 1 0",
		// Past the ends.
		"0 0 0 65", "0 0 65 65", "0 65 65 65", "0 -1 0 0", "0 -1 -1 -1", "0 0 -1 0", "0 0 0 -1", "0 1 64 65",
	} {
		for _, circuits := range []int{0, 1, 4, 64} {
			checkNoTry(t, circuits, numbersOf(text), calls)
			checkNoTry(t, circuits, numbersOf(text), nil)
			checkNoTry(t, circuits, numbersOf(text), arrivalsOf("1+1"))
		}
	}
	for place := range 4 {
		for _, wrong := range outside(0, 64) {
			spare := []int{0, 0, 0, 0}
			spare[place] = wrong
			checkNoTry(t, 64, spare, calls)
			for k := place; k < 4; k++ {
				spare[k] = wrong
			}
			checkNoTry(t, 64, spare, calls)
		}
	}
}

// P17: every four spare numbers of few.
func TestTryOfAllSpare(t *testing.T) {
	calls := arrivalsOf("1+9/3 1+9/2 1+9/1 2+0/3 2+0/2 2+0/1 2+9 3+9/1")
	for n := range 6 * 6 * 6 * 6 {
		spare := []int{n%6 - 1, n/6%6 - 1, n/36%6 - 1, n/216 - 1}
		right := spare[0] == 0 && spare[1] >= 0 && spare[2] >= spare[1] && spare[3] >= spare[2]
		for circuits := range 7 {
			if right {
				checkSecondTry(t, circuits, spare, calls)
			} else {
				checkNoTry(t, circuits, spare, calls)
			}
		}
	}
}

// P17, P21: at most 200 calls.
func TestTrySizes(t *testing.T) {
	r := drawn(1703)
	for _, n := range []int{0, 1, 2, 63, 64, 65, 199, 200, 201, 202, 256, 400, 5000} {
		list := drawArrivals(&r, n, 3, 40)
		for _, circuits := range []int{0, 1, 10, 64} {
			if n <= 200 {
				checkSecondTry(t, circuits, []int{0, 1, 2, 3}, list)
			} else {
				checkNoTry(t, circuits, []int{0, 1, 2, 3}, list)
				checkNoTry(t, circuits, []int{0, 1, 2, 3}, make([]impl.Arrival, n))
			}
		}
	}
}

// P17: Ticks that fall anywhere, by one or by much; alike ones do not.
func TestTryTicksThatFall(t *testing.T) {
	for _, n := range []int{2, 3, 7, 200} {
		for place := 1; place < n; place++ {
			list := make([]impl.Arrival, n)
			for i := range list {
				list[i] = impl.Arrival{Tick: 500 + i/2, Hold: 3, Class: i % 4}
			}
			checkSecondTry(t, 3, []int{0, 0, 1, 1}, list)
			before := list[place-1].Tick
			checkSecondTry(t, 3, []int{0, 0, 1, 1}, withArrival(list, place, func(a *impl.Arrival) { a.Tick = before }))
			for _, less := range []int{before - 1, before - 2, 0} {
				wrong := withArrival(list, place, func(a *impl.Arrival) { a.Tick = less })
				checkNoTry(t, 3, []int{0, 0, 1, 1}, wrong)
				checkNoTry(t, 0, make([]int, 4), wrong)
			}
		}
	}
	checkNoTry(t, 64, make([]int, 4), arrivalsOf("1000000000+1 999999999+1"))
	checkNoTry(t, 64, make([]int, 4), arrivalsOf("1+1 0+1"))
	checkSecondTry(t, 64, make([]int, 4), arrivalsOf("0+0 0+0 1000000000+0 1000000000+0"))
}

// P17, P21: each Tick in 0 .. 10^9, each Hold in 0 .. 10000, each Class in 0 .. 3,
// those of a call that would be refused too.
func TestTryNumbers(t *testing.T) {
	spare := []int{0, 1, 2, 3}
	for _, n := range []int{1, 2, 5, 200} {
		list := slices.Repeat([]impl.Arrival{{Tick: 700, Hold: 5, Class: 1}}, n)
		for place := range n {
			for _, circuits := range []int{0, 4} {
				for _, hold := range []int{0, 1, 9999, 10000} {
					checkSecondTry(t, circuits, spare, withArrival(list, place, func(a *impl.Arrival) { a.Hold = hold }))
				}
				for class := range 4 {
					checkSecondTry(t, circuits, spare, withArrival(list, place, func(a *impl.Arrival) { a.Class = class }))
				}
				for _, wrong := range outside(0, 10000) {
					checkNoTry(t, circuits, spare, withArrival(list, place, func(a *impl.Arrival) { a.Hold = wrong }))
				}
				for _, wrong := range outside(0, 3) {
					checkNoTry(t, circuits, spare, withArrival(list, place, func(a *impl.Arrival) { a.Class = wrong }))
				}
				for _, wrong := range outside(0, 1000000000) {
					checkNoTry(t, circuits, spare, withArrival(list, place, func(a *impl.Arrival) { a.Tick = wrong }))
				}
			}
		}
	}
}

// P17, P21: the least and the greatest ticks, also of calls that all are past
// them together.
func TestTryEnds(t *testing.T) {
	for _, circuits := range []int{0, 1, 2, 64} {
		for _, tick := range []int{0, 1, 999999999, 1000000000} {
			for _, hold := range []int{0, 1, 10000} {
				list := slices.Repeat([]impl.Arrival{{Tick: tick, Hold: hold, Class: 3}}, 5)
				checkSecondTry(t, circuits, make([]int, 4), list)
			}
		}
		for _, tick := range outside(0, 1000000000) {
			for n := 1; n < 4; n++ {
				checkNoTry(t, circuits, make([]int, 4), slices.Repeat([]impl.Arrival{{Tick: tick, Hold: 1}}, n))
			}
		}
		checkNoTry(t, circuits, make([]int, 4), arrivalsOf("-2+1 -1+1 0+1"))
		checkNoTry(t, circuits, make([]int, 4), arrivalsOf("1000000000+1 1000000001+1"))
	}
}
