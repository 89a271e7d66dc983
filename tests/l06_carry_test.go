package tests

import (
	"fmt"
	"slices"
	"strings"
	"testing"

	"loop.example/g00052/impl"
)

// arriveTable tells what a Note does where it arrives: whether the side owns
// the circuit, the kind of the Note, how the side sees the circuit, and what
// comes of that: how it is seen then ("=": as it was), "-" when the side's Lost
// is one more, and the kind that goes back, if there is one.
const arriveTable = `
own   I F    TO
own   I A    =N
own   I MTL  =N
other I F    TO
other I A    T-O
other I MTL  =N
both  O A    M
both  O FMTL =
both  N A    F-
both  N FMTL =
both  G T    FK
both  G FAML =K
both  K L    F
both  K FAMT =
`

// arriveCell is the table's last column for a Note at a side.
func arriveCell(who string, kind byte, seen byte) string {
	for _, line := range strings.Split(strings.TrimSpace(arriveTable), "\n") {
		words := strings.Fields(line)
		if (words[0] == who || words[0] == "both") && words[1][0] == kind && strings.IndexByte(words[2], seen) >= 0 {
			return words[3]
		}
	}
	return ""
}

// secondCarry is a second telling of Carry for trunks that are right: by the
// table, on a copy, which is thrown away when it does not fit.
func secondCarry(before impl.Trunk, side int) (impl.Trunk, bool) {
	after := copyOfTrunk(before)
	if len(after.Way[side]) == 0 {
		return after, false
	}
	n := after.Way[side][0]
	after.Way[side] = after.Way[side][1:]
	who := [2]string{"own", "other"}[(n.Circuit+side)%2]
	seen := &after.Circuits[side][n.Circuit]
	cell := arriveCell(who, noteLetters[n.Kind], seenLetters[*seen])
	if cell[0] != '=' {
		*seen = strings.IndexByte(seenLetters, cell[0])
	}
	back := strings.TrimPrefix(cell[1:], "-")
	after.Lost[side] += len(cell) - 1 - len(back)
	if back != "" {
		after.Way[1-side] = append(after.Way[1-side], impl.Note{Kind: strings.Index(noteLetters, back), Circuit: n.Circuit})
	}
	if after.Lost[side] > 1000000 || len(after.Way[1-side]) > 60 {
		return copyOfTrunk(before), false
	}
	return after, true
}

func checkCarry(t *testing.T, before impl.Trunk, side int) bool {
	t.Helper()
	want, ok := secondCarry(before, side)
	got, told := impl.Carry(before, side)
	if told != ok || !sameTrunk(got, want) {
		t.Errorf("%s, side %d: %v %v, not %v %v", textOfTrunk(before), side, got, told, want, ok)
	}
	return ok
}

// P6: the table names each kind, at each way of seeing the circuit, once.
func TestArriveTable(t *testing.T) {
	count := 0
	for _, who := range []string{"own", "other"} {
		for _, kind := range noteLetters[1:] {
			for _, seen := range seenLetters {
				if arriveCell(who, byte(kind), byte(seen)) != "" {
					count++
				}
			}
		}
	}
	if count != 2*5*5 {
		t.Errorf("%d cells", count)
	}
}

// P6: the first Note arrives.
func TestCarry(t *testing.T) {
	cases := []struct {
		trunk string
		side  int
		want  string
		why   string
	}{
		{"A0 F0 1I0", 1, "A0 T0 0O0", "free: it is theirs"},
		{"F0 A0 0I0", 0, "T0 A0 1O0", "free: it is theirs, the owner's too"},
		{"A0 A0 0I0 1I0", 0, "A0 A0 1I0 1N0", "the owner asked for it too, and keeps asking"},
		{"A0 A0 0I0 1I0", 1, "A0 T1 0I0 0O0", "who does not own it lost it"},
		{"FA0 FA0 0I1 1I1", 0, "FT1 FA0 1I1 1O1", "who does not own it lost it, side 0 too"},
		{"FA0 FA0 0I1 1I1", 1, "FA0 FA0 0I1 0N1", "the owner is side 1 here"},
		{"M0 A0 0I0", 0, "M0 A0 1N0", "mine"},
		{"T0 A0 0I0", 0, "T0 A0 1N0", "theirs already"},
		{"L0 A0 0I0", 0, "L0 A0 1N0", "not free again yet"},
		{"FM0 FA0 0I1", 0, "FM0 FA0 1N1", "mine, of one that it does not own"},
		{"A0 T0 0O0", 0, "M0 T0", "what was asked for is had"},
		{"F0 T0 0O0", 0, "F0 T0", "nobody asked"},
		{"T0 T0 0O0", 0, "T0 T0", "nobody asks any more"},
		{"A3 T0 0N0", 0, "F4 T0", "what was asked for is lost"},
		{"T3 M0 0N0", 0, "T3 M0", "it is lost but once"},
		{"M3 T0 0N0", 0, "M3 T0", "what is had is not lost"},
		{"L0 T0 1G0", 1, "L0 F0 0K0", "what is given back is free"},
		{"L0 A0 1G0", 1, "L0 A0 0K0", "it stays as it is, and is answered"},
		{"L0 F0 1G0", 1, "L0 F0 0K0", "free already"},
		{"L0 M0 1G0", 1, "L0 M0 0K0", "mine"},
		{"L0 L0 1G0", 1, "L0 L0 0K0", "left"},
		{"L0 F0 0K0", 0, "F0 F0", "what was left is free"},
		{"M0 F0 0K0", 0, "M0 F0", "what was not left stays"},
		{"A0 F0 0K0", 0, "A0 F0", "what was not left stays"},
		{"FAF0 FTF0 0O1 0K0 1G2", 0, "FMF0 FTF0 0K0 1G2", "the first one alone, the others stay on their way"},
		{"FFF0 FAF0 0I1 0K0 1G2 1N0", 0, "FTF0 FAF0 0K0 1G2 1N0 1O1", "what goes back stands behind"},
		{"AFF0 TFF0 0I0 0O0", 0, "AFF0 TFF0 0O0 1N0", "of two about one circuit the first"},
		{"A0 F9 1I0", 1, "A0 T9 0O0", "Lost stays"},
	}
	for _, c := range cases {
		got, ok := impl.Carry(trunkOf(c.trunk), c.side)
		if !ok || !sameTrunk(got, trunkOf(c.want)) {
			t.Errorf("%s, side %d (%s): %v %v, not %s", c.trunk, c.side, c.why, got, ok, c.want)
		}
	}
}

// P6: each kind of Note at each way of seeing each circuit, whatever else is
// on the way, and however the other side sees it.
func TestCarryAllKinds(t *testing.T) {
	rests := []string{"", " 0K0 1N0", " 0I1 1G1", " 0O2 0G2 1I2 1K2"}
	everySeen(3, func(letters string) {
		for side := range 2 {
			for kind := 1; kind <= 5; kind++ {
				for circuit := range 3 {
					note := fmt.Sprintf("%d%c%d", side, noteLetters[kind], circuit)
					for _, rest := range rests {
						if !checkCarry(t, twoSided(side, letters, note+rest), side) {
							t.Errorf("%s %s%s: refused", letters, note, rest)
						}
					}
				}
			}
		}
	})
	for _, seen := range seenLetters {
		for _, other := range seenLetters {
			for kind := 1; kind <= 5; kind++ {
				for side := range 2 {
					for circuit := range 2 {
						word := fmt.Sprintf("%d%c%d", side, noteLetters[kind], circuit)
						checkCarry(t, trunkOf(fmt.Sprintf("%c%c0 %c%c0 %s", seen, seen, other, other, word)), side)
					}
				}
			}
		}
	}
}

// P6, P21: Lost may be one more up to 1000000, and where it is not, it may
// stand at that; the way back may be full where nothing goes back.
func TestCarryLimits(t *testing.T) {
	told := map[bool]int{}
	for side := range 2 {
		for kind := 1; kind <= 5; kind++ {
			for circuit := range 2 {
				for how := range 5 {
					for _, lost := range []int{0, 999999, 1000000} {
						for _, back := range []int{0, 58, 59, 60} {
							trunk := allFree(2, 2)
							trunk.Circuits[side][circuit] = how
							trunk.Lost[side], trunk.Lost[1-side] = lost, 1000000
							trunk.Way[side] = slices.Repeat([]impl.Note{{Kind: kind, Circuit: circuit}}, 60)
							trunk.Way[1-side] = slices.Repeat([]impl.Note{{Kind: impl.GiveOk, Circuit: 1}}, back)
							told[checkCarry(t, trunk, side)]++
						}
					}
				}
			}
		}
	}
	// Of 1200 (2 sides, 5 kinds, 2 circuits, 5 ways of seeing, 3 Losts, 4 ways
	// back) 24 lose one too many: TakeIt at one circuit and TakeNo at both.
	// Something goes back for 120 with that way full, of which 2 are among the 24.
	if told[false] != 24+118 || told[true] != 1200-24-118 {
		t.Errorf("refused and taken: %v", told)
	}
	cases := []struct {
		trunk string
		side  int
		want  string
		why   string
	}{
		{"A999999 A0 0N0", 0, "F1000000 A0", "one more by TakeNo"},
		{"A1000000 A0 0N0", 0, "", "one too many by TakeNo"},
		{"M1000000 A0 0N0", 0, "M1000000 A0", "nothing is lost"},
		{"A0 A999999 1I0", 1, "A0 T1000000 0O0", "one more by TakeIt"},
		{"A0 A1000000 1I0", 1, "", "one too many by TakeIt"},
		{"A1000000 A0 0I0", 0, "A1000000 A0 1N0", "the owner loses nothing"},
		{"A0 F1000000 1I0", 1, "A0 T1000000 0O0", "what is free is not lost"},
		{"A0 A1000000 0N0", 0, "F1 A1000000", "that of the other side plays no part"},
	}
	for _, c := range cases {
		want := c.want
		if want == "" {
			want = c.trunk
		}
		got, ok := impl.Carry(trunkOf(c.trunk), c.side)
		if ok != (c.want != "") || !sameTrunk(got, trunkOf(want)) {
			t.Errorf("%s, side %d (%s): %v %v", c.trunk, c.side, c.why, got, ok)
		}
	}
}

// P6, P21: the way back full, room for one, and its own way full.
func TestCarryFull(t *testing.T) {
	for side := range 2 {
		to, back := [2]string{"0I0", "1I0"}[side], [2]string{"1O1", "0O1"}[side]
		full := withNotes("FF0 FF0 "+to, impl.MaxTrunkWay, back)
		if got, ok := impl.Carry(full, side); ok || !sameTrunk(got, full) {
			t.Errorf("side %d, the way back full: %v %v", side, got, ok)
		}
		got, ok := impl.Carry(withNotes("FF0 FF0 "+to, impl.MaxTrunkWay-1, back), side)
		way := got.Way[1-side]
		if !ok || len(way) != impl.MaxTrunkWay || way[impl.MaxTrunkWay-1] != (impl.Note{Kind: impl.TakeOk}) || len(got.Way[side]) != 0 {
			t.Errorf("side %d, room for one: %v %v", side, got, ok)
		}
		still := withNotes("FF0 FF0 "+[2]string{"0K0", "1K0"}[side], impl.MaxTrunkWay, back)
		got, ok = impl.Carry(still, side)
		if !ok || len(got.Way[1-side]) != impl.MaxTrunkWay || len(got.Way[side]) != 0 {
			t.Errorf("side %d, nothing goes back: %v %v", side, got, ok)
		}
		got, ok = impl.Carry(withNotes("FF0 FF0", impl.MaxTrunkWay, to), side)
		if !ok || len(got.Way[side]) != impl.MaxTrunkWay-1 || len(got.Way[1-side]) != 1 {
			t.Errorf("side %d, its own way full: %v %v", side, got, ok)
		}
	}
}

// P6: no Note, no side, no trunk.
func TestCarryWrong(t *testing.T) {
	nothing := map[string]int{"FM0 FT0": 0, "FM1 FT2": 1, "AF0 FF0 1I0": 0, "FF0 AF0 0I0 0I1": 1}
	for text, side := range nothing {
		if got, ok := impl.Carry(trunkOf(text), side); ok || !sameTrunk(got, trunkOf(text)) {
			t.Errorf("%s, side %d: %v %v", text, side, got, ok)
		}
	}
	for _, side := range wrongSides() {
		trunk := trunkOf("FFF1 FFF2 0O1 1G1")
		if got, ok := impl.Carry(trunk, side); ok || !sameTrunk(got, trunk) {
			t.Errorf("side %d: %v %v", side, got, ok)
		}
	}
	for why, trunk := range wrongTrunks() {
		for _, side := range []int{0, 1, 2} {
			if got, ok := impl.Carry(trunk, side); ok || !sameTrunk(got, trunk) {
				t.Errorf("%s, side %d: %v %v", why, side, got, ok)
			}
		}
	}
}

// P6: all Notes arrive, those to side 0 first.
func TestCarryAll(t *testing.T) {
	cases := []struct {
		trunk string
		want  string
		why   string
	}{
		{"FMT3 FTM4", "FMT3 FTM4", "nothing is on the way"},
		{"A0 F0 1I0", "M0 T0", "what goes back is carried too"},
		{"F0 A0 0I0", "T0 M0", "from the other side"},
		{"A0 A0 0I0 1I0", "M0 T1", "both seized it, the owner has it"},
		{"FA0 FA0 0I1 1I1", "FT1 FM0", "both seized it, the owner is side 1"},
		{"L0 T0 1G0", "F0 F0", "given back"},
		{"LT0 TL0 1G0 0G1", "FF0 FF0", "both give one back"},
		{"AAA0 FAF0 1I0 1I2 1I1 0I1", "MTM1 TMT0", "glare among others"},
		{"A0 M0 1I0", "F1 M0", "it is not free there"},
		{"A0 A0", "A0 A0", "nobody is told"},
		{"A0 F0 0O0 0N0", "M0 F0", "the first one first"},
		{"A0 F0 0N0 0O0", "F1 F0", "the first one first"},
		{"A0 A0 0O0 1I0", "M0 T1", "side 0 hears ahead of side 1"},
		{"F0 F0 0I0 1I0", "T0 T0", "nobody asked"},
		{"T0 F0 0G0 1I0", "F0 T0", "to side 0 first"},
		{"T0 F0 0I0 0G0 1G0", "F0 F0", "what goes back is answered to nobody"},
		{"AF999999 AF0 0N0 1I0", "FF1000000 TF1", "Lost at its most"},
	}
	for _, c := range cases {
		if got := impl.CarryAll(trunkOf(c.trunk)); !sameTrunk(got, trunkOf(c.want)) {
			t.Errorf("%s (%s): %v, not %s", c.trunk, c.why, got, c.want)
		}
	}
}

// P6: behind a Carry that is false it is as it was at first, whatever had been
// carried ahead of that.
func TestCarryAllRefused(t *testing.T) {
	trunks := map[string]impl.Trunk{
		"Lost at once":                trunkOf("A1000000 F0 0N0"),
		"Lost behind others":          trunkOf("AA1000000 FF0 0O0 0N1 1I0"),
		"Lost at the other side":      trunkOf("AF0 AF1000000 0N0 1I0"),
		"Lost by the second":          trunkOf("AA999999 FF0 0N0 0N1"),
		"Lost by what goes back":      trunkOf("AF1000000 MF0 1I0"),
		"Lost by the last of many":    trunkOf("AAAF999999 MMMF0 1I0 1I1 1I2"),
		"the way to side 1 full":      withNotes("F0 F0 0I0", impl.MaxTrunkWay, "1O0"),
		"full behind some":            withNotes("F0 F0 0I0 0I0 0G0", impl.MaxTrunkWay-2, "1O0"),
		"full though 1 gives nothing": withNotes("F0 F0 0G0", impl.MaxTrunkWay, "1K0"),
	}
	for why, trunk := range trunks {
		if got := impl.CarryAll(trunk); !sameTrunk(got, trunk) {
			t.Errorf("%s: %v", why, got)
		}
	}
	for why, trunk := range wrongTrunks() {
		if got := impl.CarryAll(trunk); !sameTrunk(got, trunk) {
			t.Errorf("%s: %v", why, got)
		}
	}
	room := withNotes("F0 F0 0I0 0I0 0G0", impl.MaxTrunkWay-3, "1O0")
	if got := impl.CarryAll(room); !sameTrunk(got, trunkOf("F0 F0")) {
		t.Errorf("room for all three: %v", got)
	}
	turns := withNotes("F0 F0", impl.MaxTrunkWay, "1I0")
	if got := impl.CarryAll(turns); !sameTrunk(got, trunkOf("F0 T0")) {
		t.Errorf("a full way to side 1 alone: %v", got)
	}
	idle := withNotes(textOfTrunk(withNotes("F0 F0", impl.MaxTrunkWay, "0O0")), impl.MaxTrunkWay, "1I0")
	if got := impl.CarryAll(idle); !sameTrunk(got, trunkOf("F0 T0")) {
		t.Errorf("both ways full, but nothing goes back of the one: %v", got)
	}
}

// secondCarryAll is a second telling of CarryAll, by the table.
func secondCarryAll(before impl.Trunk) impl.Trunk {
	after, ok := copyOfTrunk(before), true
	for ok && len(after.Way[0])+len(after.Way[1]) > 0 {
		side := 0
		if len(after.Way[0]) == 0 {
			side = 1
		}
		after, ok = secondCarry(after, side)
	}
	if !ok {
		return copyOfTrunk(before)
	}
	return after
}

// drawTrunk draws one that is right, with up to so many on each way, whether
// or not it could come from a new one.
func drawTrunk(r *drawn, most int) impl.Trunk {
	n := 1 + r.below(4)
	if r.below(10) == 0 {
		n = impl.MaxCircuits
	}
	trunk := allFree(n, n)
	for side := range 2 {
		for circuit := range n {
			trunk.Circuits[side][circuit] = r.below(5)
		}
		trunk.Lost[side] = []int{0, 7, 999998, 999999, 1000000}[r.below(5)]
		for range r.below(most + 1) {
			trunk.Way[side] = append(trunk.Way[side], impl.Note{Kind: 1 + r.below(5), Circuit: r.below(n)})
		}
	}
	return trunk
}

// P6: Carry and CarryAll as they are told a second time, for trunks that no new
// one leads to too.
func TestCarryDrawn(t *testing.T) {
	r := drawn(61)
	stayed, carried := 0, 0
	for round := range 12000 {
		trunk := drawTrunk(&r, []int{3, 12, 60}[round%3])
		for side := range 2 {
			checkCarry(t, trunk, side)
		}
		got, want := impl.CarryAll(trunk), secondCarryAll(trunk)
		if !sameTrunk(got, want) {
			t.Errorf("%s: %v, not %v", textOfTrunk(trunk), got, want)
		}
		if len(want.Way[0])+len(want.Way[1]) > 0 {
			stayed++
		} else {
			carried++
		}
	}
	if stayed < 500 || carried < 2000 {
		t.Errorf("%d stayed, %d were carried", stayed, carried)
	}
}
