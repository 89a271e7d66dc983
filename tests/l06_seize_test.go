package tests

import (
	"math"
	"strings"
	"testing"

	"loop.example/g00052/impl"
)

// wrongSides are none.
func wrongSides() []int { return []int{-1, 2, 3, math.MinInt, math.MaxInt} }

// everySeen visits each way of seeing n circuits.
func everySeen(n int, visit func(letters string)) {
	texts := []string{""}
	for range n {
		var longer []string
		for _, text := range texts {
			for _, letter := range seenLetters {
				longer = append(longer, text+string(letter))
			}
		}
		texts = longer
	}
	for _, text := range texts {
		visit(text)
	}
}

// seizedOf is a second telling of which circuit is seized: those that are
// owned stand ahead, in their order, the others behind in the other order.
func seizedOf(letters string, side int) int {
	var order []int
	for circuit := range letters {
		if circuit%2 == side {
			order = append(order, circuit)
		}
	}
	for back := range letters {
		if circuit := len(letters) - 1 - back; circuit%2 != side {
			order = append(order, circuit)
		}
	}
	for _, circuit := range order {
		if letters[circuit] == 'F' {
			return circuit
		}
	}
	return -1
}

// twoSided is a trunk that one side sees so; the other side sees all as left.
func twoSided(side int, letters string, notes string) impl.Trunk {
	other := strings.Repeat("L", len(letters))
	if side == 0 {
		return trunkOf(letters + "7 " + other + "8 " + notes)
	}
	return trunkOf(other + "7 " + letters + "8 " + notes)
}

// P6: a side takes of its own the first that is free, else of the others the last.
func TestSeize(t *testing.T) {
	cases := []struct {
		trunk   string
		side    int
		want    string
		circuit int
		why     string
	}{
		{"F0 F0", 0, "A0 F0 1I0", 0, "one that it owns"},
		{"F0 F0", 1, "F0 A0 0I0", 0, "one that it does not own"},
		{"FF0 FF0", 1, "FF0 FA0 0I1", 1, "its own behind the other's"},
		{"FFFFF0 FFFFF0", 0, "AFFFF0 FFFFF0 1I0", 0, "of its own the first"},
		{"FFFFF0 FFFFF0", 1, "FFFFF0 FAFFF0 0I1", 1, "of its own the first"},
		{"MFTFF0 FFFFF0", 0, "MFTFA0 FFFFF0 1I4", 4, "the last that it owns"},
		{"MFTFA0 FFFFF0", 0, "MFTAA0 FFFFF0 1I3", 3, "of the others the last"},
		{"MFTMA0 FFFFF0", 0, "MATMA0 FFFFF0 1I1", 1, "of the others the only one"},
		{"FFFFF0 FAFLF0", 1, "FFFFF0 FAFLA0 0I4", 4, "of the others the last, where there are more of them"},
		{"FFFFF0 FAFLT0", 1, "FFFFF0 FAALT0 0I2", 2, "the last that is free"},
		{"MMAAL0 FFFFF0", 0, "MMAAL0 FFFFF0", -1, "none is free to it, though all are to the other"},
		{"FFFFF0 AMTLA0", 1, "FFFFF0 AMTLA0", -1, "none is free to it"},
		{"F0 M0", 0, "A0 M0 1I0", 0, "how the other side sees it plays no part"},
		{"F0 F0 0I0", 0, "A0 F0 0I0 1I0", 0, "the other one's TakeIt is on the way"},
		{"FF0 FF0 1G1 1K1", 0, "AF0 FF0 1G1 1K1 1I0", 0, "behind those on the way"},
		{"FF1000000 FF1000000", 0, "AF1000000 FF1000000 1I0", 0, "Lost plays no part"},
	}
	for _, c := range cases {
		got, circuit := impl.Seize(trunkOf(c.trunk), c.side)
		if circuit != c.circuit || !sameTrunk(got, trunkOf(c.want)) {
			t.Errorf("%s, side %d (%s): %v %d, not %s %d", c.trunk, c.side, c.why, got, circuit, c.want, c.circuit)
		}
	}
}

// P6: which circuit it is, over all ways of seeing up to five circuits.
func TestSeizeAll(t *testing.T) {
	for n := 1; n <= 5; n++ {
		everySeen(n, func(letters string) {
			for side := range 2 {
				before := twoSided(side, letters, "0N0 1N0")
				want, circuit := copyOfTrunk(before), seizedOf(letters, side)
				if circuit >= 0 {
					want.Circuits[side][circuit] = impl.CircAsked
					want.Way[1-side] = append(want.Way[1-side], impl.Note{Kind: impl.TakeIt, Circuit: circuit})
				}
				got, place := impl.Seize(before, side)
				if place != circuit || !sameTrunk(got, want) {
					t.Errorf("%s, side %d: %v %d, not %v %d", letters, side, got, place, want, circuit)
				}
			}
		})
	}
}

// P6: a side that seizes till none is left has its own first, then the others.
func TestSeizeAllOfThem(t *testing.T) {
	for n := 1; n <= impl.MaxCircuits; n++ {
		for side := range 2 {
			trunk := impl.NewTrunk(n)
			letters := strings.Repeat("F", n)
			for range n {
				want := seizedOf(letters, side)
				after, circuit := impl.Seize(trunk, side)
				if circuit != want {
					t.Fatalf("%s, side %d: %d, not %d", letters, side, circuit, want)
				}
				letters = letters[:want] + "A" + letters[want+1:]
				trunk = after
			}
			if len(trunk.Way[1-side]) != n || len(trunk.Way[side]) != 0 {
				t.Errorf("%d circuits, side %d: %v", n, side, trunk.Way)
			}
			if got, circuit := impl.Seize(trunk, side); circuit != -1 || !sameTrunk(got, trunk) {
				t.Errorf("%d circuits, one more at side %d: %v %d", n, side, got, circuit)
			}
		}
	}
}

// P6, P21: the way to the other side may be full; its own plays no part.
func TestSeizeFull(t *testing.T) {
	for side := range 2 {
		word := [2]string{"1O0", "0O0"}[side]
		full := withNotes("FF0 FF0", impl.MaxTrunkWay, word)
		if got, circuit := impl.Seize(full, side); circuit != -1 || !sameTrunk(got, full) {
			t.Errorf("side %d, a full way: %v %d", side, got, circuit)
		}
		room := withNotes("FF0 FF0", impl.MaxTrunkWay-1, word)
		got, circuit := impl.Seize(room, side)
		way := got.Way[1-side]
		if circuit != side || len(way) != impl.MaxTrunkWay || way[impl.MaxTrunkWay-1] != (impl.Note{Kind: impl.TakeIt, Circuit: side}) {
			t.Errorf("side %d, room for one: %v %d", side, got, circuit)
		}
		back := withNotes("FF0 FF0", impl.MaxTrunkWay, [2]string{"0O0", "1O0"}[side])
		if got, circuit := impl.Seize(back, side); circuit != side || len(got.Way[1-side]) != 1 {
			t.Errorf("side %d, its own way full: %v %d", side, got, circuit)
		}
	}
}

// P6: what is not as it must be leaves the trunk as it was.
func TestSeizeWrong(t *testing.T) {
	for why, trunk := range wrongTrunks() {
		for _, side := range []int{0, 1, 2} {
			if got, circuit := impl.Seize(trunk, side); circuit != -1 || !sameTrunk(got, trunk) {
				t.Errorf("%s, side %d: %v %d", why, side, got, circuit)
			}
		}
	}
	for _, side := range wrongSides() {
		trunk := trunkOf("FFF1 FFF2 0O1 1G1")
		if got, circuit := impl.Seize(trunk, side); circuit != -1 || !sameTrunk(got, trunk) {
			t.Errorf("side %d: %v %d", side, got, circuit)
		}
	}
}

// P6: what is a side's own is given back, and nothing else.
func TestLeave(t *testing.T) {
	cases := []struct {
		trunk   string
		side    int
		circuit int
		want    string
		why     string
	}{
		{"M0 T0", 0, 0, "L0 T0 1G0", "one that it owns"},
		{"T0 M0", 1, 0, "T0 L0 0G0", "one that it does not own"},
		{"TMM0 MTT0", 0, 2, "TML0 MTT0 1G2", "the last one"},
		{"TMM0 MTT0", 0, 1, "TLM0 MTT0 1G1", "one of two"},
		{"MM0 TT0 1O0 1N1 0I0", 0, 1, "ML0 TT0 0I0 1O0 1N1 1G1", "behind those on the way"},
		{"M0 F0", 0, 0, "L0 F0 1G0", "how the other side sees it plays no part"},
		{"M1000000 T1000000", 0, 0, "L1000000 T1000000 1G0", "Lost plays no part"},
	}
	for _, c := range cases {
		got, ok := impl.Leave(trunkOf(c.trunk), c.side, c.circuit)
		if !ok || !sameTrunk(got, trunkOf(c.want)) {
			t.Errorf("%s, side %d, %d (%s): %v %v, not %s", c.trunk, c.side, c.circuit, c.why, got, ok, c.want)
		}
	}
}

// P6: each way of seeing a circuit, at each of them, at each side.
func TestLeaveAll(t *testing.T) {
	for n := 1; n <= 4; n++ {
		everySeen(n, func(letters string) {
			for side := range 2 {
				for circuit := -1; circuit <= n; circuit++ {
					before := twoSided(side, letters, "0K0 1K0")
					want := copyOfTrunk(before)
					mine := circuit >= 0 && circuit < n && letters[circuit] == 'M'
					if mine {
						want.Circuits[side][circuit] = impl.CircLeft
						want.Way[1-side] = append(want.Way[1-side], impl.Note{Kind: impl.GiveBack, Circuit: circuit})
					}
					if got, ok := impl.Leave(before, side, circuit); ok != mine || !sameTrunk(got, want) {
						t.Errorf("%s, side %d, %d: %v %v", letters, side, circuit, got, ok)
					}
				}
			}
		})
	}
}

// P6, P21: a full way, and one with room for one; what is not as it must be.
func TestLeaveRefused(t *testing.T) {
	for side := range 2 {
		word := [2]string{"1O0", "0O0"}[side]
		full := withNotes("MM0 MM0", impl.MaxTrunkWay, word)
		if got, ok := impl.Leave(full, side, 1); ok || !sameTrunk(got, full) {
			t.Errorf("side %d, a full way: %v %v", side, got, ok)
		}
		got, ok := impl.Leave(withNotes("MM0 MM0", impl.MaxTrunkWay-1, word), side, 1)
		way := got.Way[1-side]
		if !ok || len(way) != impl.MaxTrunkWay || way[impl.MaxTrunkWay-1] != (impl.Note{Kind: impl.GiveBack, Circuit: 1}) {
			t.Errorf("side %d, room for one: %v %v", side, got, ok)
		}
		back := withNotes("MM0 MM0", impl.MaxTrunkWay, [2]string{"0O0", "1O0"}[side])
		if got, ok := impl.Leave(back, side, 0); !ok || len(got.Way[1-side]) != 1 {
			t.Errorf("side %d, its own way full: %v %v", side, got, ok)
		}
	}
	trunk := trunkOf("MMM1 MMM2 0O1 1G1")
	for _, side := range wrongSides() {
		if got, ok := impl.Leave(trunk, side, 1); ok || !sameTrunk(got, trunk) {
			t.Errorf("side %d: %v %v", side, got, ok)
		}
	}
	for _, circuit := range []int{-1, 3, impl.MaxCircuits, math.MinInt, math.MaxInt} {
		if got, ok := impl.Leave(trunk, 0, circuit); ok || !sameTrunk(got, trunk) {
			t.Errorf("circuit %d: %v %v", circuit, got, ok)
		}
	}
	for why, trunk := range wrongTrunks() {
		for circuit := -1; circuit <= 3; circuit++ {
			if got, ok := impl.Leave(trunk, 0, circuit); ok || !sameTrunk(got, trunk) {
				t.Errorf("%s, circuit %d: %v %v", why, circuit, got, ok)
			}
		}
	}
}
