package tests

import (
	"fmt"
	"slices"
	"strings"
	"testing"

	"loop.example/g00052/impl"
)

// actOn does what a word tells: "seize 0" (by side 0), "leave 0 2" (circuit 2
// by side 0), "carry 1" (to side 1), "all". It tells the circuit that is
// seized, else 0; -1 is for what may not be.
func actOn(trunk impl.Trunk, act string) (impl.Trunk, int) {
	words := strings.Fields(act)
	var numbers [2]int
	for i, word := range words[1:] {
		mustScan(word, "%d", &numbers[i])
	}
	ok := true
	switch words[0] {
	case "seize":
		return impl.Seize(trunk, numbers[0])
	case "leave":
		trunk, ok = impl.Leave(trunk, numbers[0], numbers[1])
	case "carry":
		trunk, ok = impl.Carry(trunk, numbers[0])
	case "all":
		trunk = impl.CarryAll(trunk)
	}
	if !ok {
		return trunk, -1
	}
	return trunk, 0
}

// P6: both sides seize one circuit at once. What each sees behind each Note,
// in either order of these, who has it in the end, and what comes behind that.
func TestGlare(t *testing.T) {
	runs := map[string][][2]string{
		"the owner is side 0, and hears first": {
			{"", "F0 F0"},
			{"seize 0", "A0 F0 1I0"},
			{"seize 1", "A0 A0 0I0 1I0"},
			{"carry 0", "A0 A0 1I0 1N0"},
			{"carry 1", "A0 T1 0O0 1N0"},
			{"carry 1", "A0 T1 0O0"},
			{"carry 0", "M0 T1"},
			{"leave 0 0", "L0 T1 1G0"},
			{"carry 1", "L0 F1 0K0"},
			{"seize 1", "L0 A1 0K0 0I0"},
			{"carry 0", "F0 A1 0I0"},
			{"carry 0", "T0 A1 1O0"},
			{"carry 1", "T0 M1"},
		},
		"the other one hears first": {
			{"", "F0 F0"},
			{"seize 1", "F0 A0 0I0"},
			{"seize 0", "A0 A0 0I0 1I0"},
			{"carry 1", "A0 T1 0I0 0O0"},
			{"carry 0", "A0 T1 0O0 1N0"},
			{"carry 0", "M0 T1 1N0"},
			{"carry 1", "M0 T1"},
		},
		"left again while the refusal is on the way": {
			{"", "A0 A0 0I0 1I0"},
			{"carry 1", "A0 T1 0I0 0O0"},
			{"carry 0", "A0 T1 0O0 1N0"},
			{"carry 0", "M0 T1 1N0"},
			{"leave 0 0", "L0 T1 1N0 1G0"},
			{"carry 1", "L0 T1 1G0"},
			{"carry 1", "L0 F1 0K0"},
			{"seize 1", "L0 A1 0K0 0I0"},
			{"carry 0", "F0 A1 0I0"},
			{"seize 0", "A0 A1 0I0 1I0"},
			{"carry 0", "A0 A1 1I0 1N0"},
			{"carry 1", "A0 T2 0O0 1N0"},
			{"carry 0", "M0 T2 1N0"},
			{"all", "M0 T2"},
		},
		"the owner is side 1": {
			{"", "MF0 TF0"},
			{"seize 0", "MA0 TF0 1I1"},
			{"seize 1", "MA0 TA0 1I1 0I1"},
			{"carry 1", "MA0 TA0 0I1 0N1"},
			{"carry 0", "MT1 TA0 0N1 1O1"},
			{"carry 0", "MT1 TA0 1O1"},
			{"carry 1", "MT1 TM0"},
			{"leave 1 1", "MT1 TL0 0G1"},
			{"leave 0 0", "LT1 TL0 0G1 1G0"},
			{"all", "FF1 FF0"},
		},
		"both circuits at once, each seized first by its owner": {
			{"", "FF0 FF0"},
			{"seize 0", "AF0 FF0 1I0"},
			{"seize 1", "AF0 FA0 1I0 0I1"},
			{"seize 0", "AA0 FA0 1I0 1I1 0I1"},
			{"seize 1", "AA0 AA0 1I0 1I1 0I1 0I0"},
			{"carry 0", "AT1 AA0 1I0 1I1 1O1 0I0"},
			{"carry 1", "AT1 TA1 1I1 1O1 0I0 0O0"},
			{"carry 1", "AT1 TA1 1O1 0I0 0O0 0N1"},
			{"carry 0", "AT1 TA1 1O1 1N0 0O0 0N1"},
			{"carry 1", "AT1 TM1 1N0 0O0 0N1"},
			{"all", "MT1 TM1"},
		},
	}
	for why, steps := range runs {
		trunk := trunkOf(steps[0][1])
		for _, step := range steps[1:] {
			after, told := actOn(trunk, step[0])
			if told < 0 || !sameTrunk(after, trunkOf(step[1])) {
				t.Fatalf("%s: %s, %s: %v %d, not %s", why, textOfTrunk(trunk), step[0], after, told, step[1])
			}
			trunk = after
		}
	}
}

// seizing is a run that counts each side's seizures, and the circuits that it
// had and gave back.
type seizing struct {
	trunk  impl.Trunk
	seized [2]int
	gave   [2]int
}

func (s *seizing) seize(side int) bool {
	after, circuit := impl.Seize(s.trunk, side)
	s.trunk = after
	if circuit >= 0 {
		s.seized[side]++
	}
	return circuit >= 0
}

func (s *seizing) leave(side int, circuit int) bool {
	after, ok := impl.Leave(s.trunk, side, circuit)
	s.trunk = after
	if ok {
		s.gave[side]++
	}
	return ok
}

func (s *seizing) carry(side int) bool {
	after, ok := impl.Carry(s.trunk, side)
	s.trunk = after
	return ok
}

// check asks for what holds when all Notes are carried: each seizure is a
// circuit that was given back or is still had, or it is lost.
func (s *seizing) check(t *testing.T) impl.Trunk {
	t.Helper()
	end := impl.CarryAll(s.trunk)
	if !impl.Settled(end) || !impl.TrunkOk(s.trunk) {
		t.Fatalf("%s is carried to %v", textOfTrunk(s.trunk), end)
	}
	for side := range 2 {
		had := s.gave[side]
		for _, how := range end.Circuits[side] {
			if how == impl.CircMine {
				had++
			}
		}
		if s.seized[side] != had+end.Lost[side] {
			t.Fatalf("%s, side %d: of %d seizures %d are circuits, %d lost", textOfTrunk(s.trunk), side, s.seized[side], had, end.Lost[side])
		}
	}
	return end
}

// P6: over many drawn acts from a new trunk all is settled when all is carried,
// and each seizure is a circuit or lost.
func TestSeizuresDrawn(t *testing.T) {
	r := drawn(62)
	lost, most := 0, 0
	for _, n := range []int{1, 2, 3, 4, 7, impl.MaxCircuits} {
		for run := range 25 {
			s := seizing{trunk: impl.NewTrunk(n)}
			// Some runs carry less, so that more is on the way.
			slow := 2 + run%5
			for step := range 400 {
				side := r.below(2)
				switch r.below(slow + 2) {
				case 0, 1:
					s.carry(side)
				case 2:
					s.leave(side, r.below(n))
				default:
					s.seize(side)
				}
				most = max(most, len(s.trunk.Way[0]), len(s.trunk.Way[1]))
				if step%5 == 0 {
					s.check(t)
				}
				if r.below(90) == 0 {
					s.trunk = s.check(t)
				}
			}
			end := s.check(t)
			lost += end.Lost[0] + end.Lost[1]
		}
	}
	if lost < 1000 || most < 20 {
		t.Errorf("%d lost, at most %d on a way: too dull a run", lost, most)
	}
}

// P6: all that acts can lead to from a new trunk of few circuits: it is settled
// when all is carried, each circuit has at most two Notes on each way, and who
// owns the only circuit never loses it.
func TestAllSettled(t *testing.T) {
	for n, least := range map[int]int{1: 19, 2: 600, 3: 30000} {
		list := reachableTrunks(n)
		if len(list) < least {
			t.Fatalf("%d circuits: only %d trunks were reached", n, len(list))
		}
		for _, trunk := range list {
			end := impl.CarryAll(trunk)
			if !impl.Settled(end) {
				t.Errorf("%s is carried to %v", textOfTrunk(trunk), end)
			}
			if n == 1 && end.Lost[0] > 0 {
				t.Errorf("%s: the owner has lost it", textOfTrunk(trunk))
			}
			if len(trunk.Way[0]) > 2*n || len(trunk.Way[1]) > 2*n {
				t.Errorf("%s: many on the way", textOfTrunk(trunk))
			}
		}
	}
}

// reachableTrunks are all that acts lead to from a new one. Lost is set back
// each time, as it would never end.
func reachableTrunks(n int) []impl.Trunk {
	acts := []string{"seize 0", "seize 1", "carry 0", "carry 1"}
	for circuit := range n {
		acts = append(acts, fmt.Sprintf("leave 0 %d", circuit), fmt.Sprintf("leave 1 %d", circuit))
	}
	list := []impl.Trunk{impl.NewTrunk(n)}
	seen := map[string]bool{textOfTrunk(list[0]): true}
	for at := 0; at < len(list); at++ {
		for _, act := range acts {
			after, told := actOn(list[at], act)
			after.Lost = [2]int{}
			if text := textOfTrunk(after); told >= 0 && !seen[text] {
				seen[text] = true
				list = append(list, after)
			}
		}
	}
	return list
}

// P6: glare over all circuits at once: each is its owner's in the end, and each
// side has lost those that it does not own.
func TestGlareOverAll(t *testing.T) {
	for n := 1; n <= impl.MaxCircuits; n++ {
		s := seizing{trunk: impl.NewTrunk(n)}
		for range n {
			if !s.seize(0) || !s.seize(1) {
				t.Fatalf("%d circuits: %v", n, s.trunk)
			}
		}
		end := s.check(t)
		want := allFree(n, n)
		for circuit := range n {
			owner := circuit % 2
			want.Circuits[owner][circuit] = impl.CircMine
			want.Circuits[1-owner][circuit] = impl.CircTheirs
			want.Lost[1-owner]++
		}
		if !sameTrunk(end, want) {
			t.Errorf("%d circuits: %v", n, end)
		}
		checkGiveAllBack(t, end, n)
	}
}

func checkGiveAllBack(t *testing.T, trunk impl.Trunk, n int) {
	t.Helper()
	lost := trunk.Lost
	for circuit := range n {
		after, ok := impl.Leave(trunk, circuit%2, circuit)
		if !ok {
			t.Fatalf("circuit %d of %d is not given back: %v", circuit, n, trunk)
		}
		trunk = after
	}
	want := allFree(n, n)
	want.Lost = lost
	if got := impl.CarryAll(trunk); !sameTrunk(got, want) {
		t.Errorf("%d circuits given back: %v", n, got)
	}
}

// P6: the order in which both sides hear plays no part in what glare comes to.
func TestGlareInAnyOrder(t *testing.T) {
	for _, text := range []string{"A0 A0 0I0 1I0", "AA0 AA0 0I1 0I0 1I0 1I1", "MA0 TA0 0I1 1I1", "LAF0 TAA0 1G0 0I1 0I2 1I1"} {
		want := impl.CarryAll(trunkOf(text))
		ends := carriedAnyhow(trunkOf(text))
		if len(ends) == 0 || !impl.Settled(want) {
			t.Errorf("%s: %v", text, want)
		}
		if i := slices.IndexFunc(ends, func(end impl.Trunk) bool { return !sameTrunk(end, want) }); i >= 0 {
			t.Errorf("%s: %v, and %v", text, want, ends[i])
		}
	}
}

// carriedAnyhow is what comes of carrying in each order.
func carriedAnyhow(trunk impl.Trunk) []impl.Trunk {
	var ends []impl.Trunk
	for side := range 2 {
		if after, ok := impl.Carry(trunk, side); ok {
			ends = append(ends, carriedAnyhow(after)...)
		}
	}
	if len(trunk.Way[0])+len(trunk.Way[1]) == 0 {
		return []impl.Trunk{trunk}
	}
	return ends
}
