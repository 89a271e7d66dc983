package tests

import (
	"slices"
	"testing"

	"loop.example/g00052/impl"
)

// shedBySorting sorts the places by Class, cuts, and sorts what is left again.
func shedBySorting(calls []impl.Arrival, busy, most int) []impl.Arrival {
	var places []int
	for place := range calls {
		places = append(places, place)
	}
	slices.SortStableFunc(places, func(a, b int) int { return calls[a].Class - calls[b].Class })
	places = places[:min(len(places), max(0, most-busy))]
	slices.Sort(places)
	var list []impl.Arrival
	for _, place := range places {
		list = append(list, calls[place])
	}
	return list
}

func checkShed(t *testing.T, calls []impl.Arrival, busy, most int, want []impl.Arrival) {
	t.Helper()
	if got, ok := impl.Shed(calls, busy, most); !ok || !slices.Equal(got, want) {
		t.Errorf("Shed(%s, %d, %d): %s and %t, not %s", textOfArrivals(calls), busy, most, textOfArrivals(got), ok, textOfArrivals(want))
	}
}

func checkSecondShed(t *testing.T, calls []impl.Arrival, busy, most int) {
	t.Helper()
	checkShed(t, calls, busy, most, shedBySorting(calls, busy, most))
}

func checkNoShed(t *testing.T, calls []impl.Arrival, busy, most int) {
	t.Helper()
	if got, ok := impl.Shed(calls, busy, most); ok || len(got) != 0 {
		t.Errorf("Shed(%s, %d, %d): %s and %t", textOfArrivals(calls), busy, most, textOfArrivals(got), ok)
	}
}

// P17: known calls; Ticks tell which of them are let in.
func TestKnownSheds(t *testing.T) {
	for _, c := range []struct {
		calls      string
		busy, most int
		want       string
	}{
		{"", 0, 0, ""},
		{"", 5, 8, ""},
		{"", 10000, 0, ""},
		{"1+5", 0, 0, ""},
		{"1+5", 0, 1, "1+5"},
		{"1+5/3", 0, 1, "1+5/3"},
		// Room for none, for some and for all.
		{"1+0/2 2+0 3+0/2 4+0/1", 8, 8, ""},
		{"1+0/2 2+0 3+0/2 4+0/1", 7, 8, "2+0"},
		{"1+0/2 2+0 3+0/2 4+0/1", 6, 8, "2+0 4+0/1"},
		{"1+0/2 2+0 3+0/2 4+0/1", 5, 8, "1+0/2 2+0 4+0/1"},
		{"1+0/2 2+0 3+0/2 4+0/1", 4, 8, "1+0/2 2+0 3+0/2 4+0/1"},
		{"1+0/2 2+0 3+0/2 4+0/1", 3, 8, "1+0/2 2+0 3+0/2 4+0/1"},
		{"1+0/2 2+0 3+0/2 4+0/1", 0, 10000, "1+0/2 2+0 3+0/2 4+0/1"},
		// More go on than may.
		{"1+0/2 2+0 3+0/2 4+0/1", 9, 8, ""},
		{"1+0/2 2+0 3+0/2 4+0/1", 10000, 0, ""},
		{"1+0/2 2+0 3+0/2 4+0/1", 10000, 9999, ""},
		{"1+0", 1, 0, ""},
		// Of one Class those that stand first, whatever they come at or last.
		{"1+0 2+0 3+0", 0, 2, "1+0 2+0"},
		{"3+9 2+5 1+0", 0, 2, "3+9 2+5"},
		{"3+9/3 2+5/3 1+0/3", 0, 1, "3+9/3"},
		{"7+7/1 7+7/1 7+8/1 7+7/1", 0, 3, "7+7/1 7+7/1 7+8/1"},
		// Each Class ahead of the next.
		{"1+0/3 2+0/2 3+0/1 4+0", 0, 1, "4+0"},
		{"1+0/3 2+0/2 3+0/1 4+0", 0, 2, "3+0/1 4+0"},
		{"1+0/3 2+0/2 3+0/1 4+0", 0, 3, "2+0/2 3+0/1 4+0"},
		{"4+0/3 1+0 4+1/3 1+1 2+0/1 2+1/1", 0, 5, "4+0/3 1+0 1+1 2+0/1 2+1/1"},
		// Ticks that fall ask at once all the same.
		{"9+0/1 5+0 1+0/1", 9998, 10000, "9+0/1 5+0"},
		{"1000000000+10000/3 0+0/3", 9999, 10000, "1000000000+10000/3"},
	} {
		calls, want := arrivalsOf(c.calls), arrivalsOf(c.want)
		checkShed(t, calls, c.busy, c.most, want)
		if told := shedBySorting(calls, c.busy, c.most); !slices.Equal(told, want) {
			t.Errorf("the second telling of %v is wrong: %s", c, textOfArrivals(told))
		}
	}
}

// P17: all Classes of few calls, at all room.
func TestShedOfAllClasses(t *testing.T) {
	for n := range 6 {
		everyArrivals(n, 1, 1, 4, func(list []impl.Arrival) {
			calls := slices.Clone(list)
			for i := range calls {
				calls[i].Tick = 50 - i
			}
			for most := range 8 {
				for busy := range 4 {
					checkSecondShed(t, calls, busy, most)
				}
			}
		})
	}
}

// P17: drawn calls: as many are let in as there is room for, and nobody ahead of
// whom one of a greater Class, or one that stands behind, is.
func TestDrawnSheds(t *testing.T) {
	r := drawn(1704)
	told := map[string]int{}
	for range 6000 {
		calls := drawArrivals(&r, r.below(201), 1, 100)
		for i := range calls {
			calls[i].Tick = i
			if r.below(2) == 0 {
				calls[i].Class = r.below(1 + r.below(4))
			}
		}
		busy := r.below(9700)
		most := min(10000, max(0, busy-30+r.below(260)))
		checkSecondShed(t, calls, busy, most)
		list, _ := impl.Shed(calls, busy, most)
		if len(list) != min(len(calls), max(0, most-busy)) || len(list) > 0 && busy+len(list) > most {
			t.Fatalf("%d of %d calls are let in, %d go on, %d may", len(list), len(calls), busy, most)
		}
		checkShedOrder(t, calls, list)
		switch len(list) {
		case 0:
			told["none"]++
		case len(calls):
			told["all"]++
		default:
			told["some"]++
		}
	}
	if told["none"] < 300 || told["some"] < 300 || told["all"] < 300 {
		t.Error("too few rooms of a kind", told)
	}
}

// checkShedOrder takes calls whose Tick is their place.
func checkShedOrder(t *testing.T, calls, list []impl.Arrival) {
	t.Helper()
	in := make([]bool, len(calls))
	for i, call := range list {
		if i > 0 && call.Tick <= list[i-1].Tick || calls[call.Tick] != call {
			t.Fatal("not the calls in their order", textOfArrivals(list))
		}
		in[call.Tick] = true
	}
	last, first := impl.Arrival{Class: -1}, impl.Arrival{Class: 4}
	for place, call := range calls {
		if in[place] && call.Class >= last.Class {
			last = call
		}
		if !in[place] && call.Class < first.Class {
			first = call
		}
	}
	if last.Class > first.Class || last.Class == first.Class && last.Tick > first.Tick {
		t.Fatal("let in is", last, "and not", first)
	}
}

// P17, P21: at most 200 calls, and how many they are where nobody is let in.
func TestShedSizes(t *testing.T) {
	r := drawn(1705)
	for _, n := range []int{0, 1, 2, 199, 200, 201, 202, 256, 400, 5000} {
		calls := drawArrivals(&r, n, 4, 40)
		for _, room := range [][2]int{{0, 0}, {0, 1}, {7, 100}, {0, 199}, {0, 200}, {0, 201}, {9, 10000}, {10000, 0}} {
			if n <= 200 {
				checkSecondShed(t, calls, room[0], room[1])
			} else {
				checkNoShed(t, calls, room[0], room[1])
				checkNoShed(t, make([]impl.Arrival, n), room[0], room[1])
			}
		}
	}
}

// P17, P21: busy and most in 0 .. 10000, also where they play no part.
func TestShedNumbers(t *testing.T) {
	for _, calls := range [][]impl.Arrival{nil, arrivalsOf("1+1"), arrivalsOf("1+1/3 2+2 3+3/1")} {
		for _, busy := range []int{0, 1, 2, 9998, 9999, 10000} {
			for _, most := range []int{0, 1, 2, 3, 9998, 9999, 10000} {
				checkSecondShed(t, calls, busy, most)
			}
			for _, wrong := range outside(0, 10000) {
				checkNoShed(t, calls, busy, wrong)
				checkNoShed(t, calls, wrong, busy)
				checkNoShed(t, calls, wrong, wrong)
			}
		}
	}
}

// P17, P21: each call is one, those that are not let in too.
func TestShedCalls(t *testing.T) {
	for _, n := range []int{1, 3, 200} {
		calls := slices.Repeat([]impl.Arrival{{Tick: 7, Hold: 7, Class: 1}}, n)
		for place := range n {
			for _, room := range []int{0, 1, 200} {
				for _, tick := range []int{0, 6, 999999999, 1000000000} {
					checkSecondShed(t, withArrival(calls, place, func(a *impl.Arrival) { a.Tick = tick }), 0, room)
				}
				for _, hold := range []int{0, 1, 9999, 10000} {
					checkSecondShed(t, withArrival(calls, place, func(a *impl.Arrival) { a.Hold = hold }), 0, room)
				}
				for class := range 4 {
					checkSecondShed(t, withArrival(calls, place, func(a *impl.Arrival) { a.Class = class }), 0, room)
				}
				for _, wrong := range outside(0, 1000000000) {
					checkNoShed(t, withArrival(calls, place, func(a *impl.Arrival) { a.Tick = wrong }), 0, room)
				}
				for _, wrong := range outside(0, 10000) {
					checkNoShed(t, withArrival(calls, place, func(a *impl.Arrival) { a.Hold = wrong }), 0, room)
				}
				for _, wrong := range outside(0, 3) {
					checkNoShed(t, withArrival(calls, place, func(a *impl.Arrival) { a.Class = wrong }), 0, room)
				}
			}
		}
	}
}
