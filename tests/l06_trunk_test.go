package tests

import (
	"fmt"
	"math"
	"slices"
	"strings"
	"testing"

	"loop.example/g00052/impl"
)

// The tests of trunks write one as text: for side 0 and for side 1 how it sees
// each circuit (F free, A asked, M mine, T theirs, L left) and its Lost, then
// the Notes on the way, each by the side it goes to, its kind (I take it,
// O take ok, N take no, G give back, K give ok) and its circuit:
// "FAM2 FTL0 1I1 0O2". Those to one side stand in their order; how they stand
// among those to the other side plays no part.

const (
	seenLetters = "FAMTL"
	noteLetters = "-IONGK"
)

func seenOf(letters string) []int {
	var seen []int
	for _, letter := range letters {
		seen = append(seen, strings.IndexRune(seenLetters, letter))
	}
	return seen
}

func noteFrom(word string) (int, impl.Note) {
	n := impl.Note{Kind: strings.IndexByte(noteLetters, word[1])}
	mustScan(word[2:], "%d", &n.Circuit)
	return int(word[0] - '0'), n
}

func trunkOf(text string) impl.Trunk {
	var trunk impl.Trunk
	words := strings.Fields(text)
	for side, word := range words[:2] {
		letters := strings.TrimRight(word, "-0123456789")
		trunk.Circuits[side] = seenOf(letters)
		mustScan(word[len(letters):], "%d", &trunk.Lost[side])
	}
	for _, word := range words[2:] {
		side, n := noteFrom(word)
		trunk.Way[side] = append(trunk.Way[side], n)
	}
	return trunk
}

// textOfTrunk is for those that are right. The Notes to side 0 are told first.
func textOfTrunk(trunk impl.Trunk) string {
	var words []string
	for side, seen := range trunk.Circuits {
		var letters []byte
		for _, how := range seen {
			letters = append(letters, seenLetters[how])
		}
		words = append(words, fmt.Sprintf("%s%d", letters, trunk.Lost[side]))
	}
	for side, way := range trunk.Way {
		for _, n := range way {
			words = append(words, fmt.Sprintf("%d%c%d", side, noteLetters[n.Kind], n.Circuit))
		}
	}
	return strings.Join(words, " ")
}

func sameTrunk(a impl.Trunk, b impl.Trunk) bool {
	for side := range 2 {
		if !slices.Equal(a.Circuits[side], b.Circuits[side]) || !slices.Equal(a.Way[side], b.Way[side]) {
			return false
		}
	}
	return a.Lost == b.Lost
}

func copyOfTrunk(trunk impl.Trunk) impl.Trunk {
	for side := range 2 {
		trunk.Circuits[side] = slices.Clone(trunk.Circuits[side])
		trunk.Way[side] = slices.Clone(trunk.Way[side])
	}
	return trunk
}

// withNotes is the trunk of a text with so many Notes more on the way, all alike.
func withNotes(text string, n int, word string) impl.Trunk {
	trunk := trunkOf(text)
	side, note := noteFrom(word)
	trunk.Way[side] = append(trunk.Way[side], slices.Repeat([]impl.Note{note}, n)...)
	return trunk
}

// allFree has so many circuits for each side.
func allFree(n int, m int) impl.Trunk {
	return impl.Trunk{Circuits: [2][]int{make([]int, n), make([]int, m)}}
}

func changedTrunk(text string, change func(trunk *impl.Trunk)) impl.Trunk {
	trunk := trunkOf(text)
	change(&trunk)
	return trunk
}

// wrongTrunks have one fault each, by what it is. Most would be settled, or
// could be seized, left and carried, were it not for that.
func wrongTrunks() map[string]impl.Trunk {
	const still = "FMF0 FTF0"
	const busy = "FMF0 FMF0 0O1 0I2 1I0 1G2"
	return map[string]impl.Trunk{
		"the zero value":           {},
		"empty lists":              {Circuits: [2][]int{{}, {}}, Way: [2][]impl.Note{{}, {}}},
		"no circuits, but a Note":  {Way: [2][]impl.Note{{{Kind: impl.TakeIt}}, nil}},
		"one circuit too many":     allFree(impl.MaxCircuits+1, impl.MaxCircuits+1),
		"far too many circuits":    allFree(500, 500),
		"none at side 1":           allFree(3, 0),
		"none at side 0":           allFree(0, 3),
		"one more at side 0":       trunkOf("FMFF0 FMF0 1I0 0I0"),
		"one more at side 1":       trunkOf("FMF0 FMFF0 1I0 0I0"),
		"one too many at side 0":   allFree(impl.MaxCircuits+1, impl.MaxCircuits),
		"one too many at side 1":   allFree(impl.MaxCircuits, impl.MaxCircuits+1),
		"seen below 0 by side 0":   changedTrunk(busy, func(t *impl.Trunk) { t.Circuits[0][2] = -1 }),
		"seen below 0 by side 1":   changedTrunk(busy, func(t *impl.Trunk) { t.Circuits[1][2] = -1 }),
		"seen as 5 by side 0":      changedTrunk(busy, func(t *impl.Trunk) { t.Circuits[0][0] = 5 }),
		"seen as 5 by side 1":      changedTrunk(busy, func(t *impl.Trunk) { t.Circuits[1][0] = 5 }),
		"seen as 5 by both":        changedTrunk(still, func(t *impl.Trunk) { t.Circuits[0][0], t.Circuits[1][0] = 5, 5 }),
		"seen as one far away":     changedTrunk(busy, func(t *impl.Trunk) { t.Circuits[1][1] = math.MaxInt }),
		"Lost of side 0 below 0":   changedTrunk(still, func(t *impl.Trunk) { t.Lost[0] = -1 }),
		"Lost of side 1 below 0":   changedTrunk(still, func(t *impl.Trunk) { t.Lost[1] = -1 }),
		"Lost of side 0 one more":  changedTrunk(still, func(t *impl.Trunk) { t.Lost[0] = 1000001 }),
		"Lost of side 1 one more":  changedTrunk(still, func(t *impl.Trunk) { t.Lost[1] = 1000001 }),
		"Lost far below":           changedTrunk(busy, func(t *impl.Trunk) { t.Lost[0] = math.MinInt }),
		"Lost far too great":       changedTrunk(busy, func(t *impl.Trunk) { t.Lost[1] = math.MaxInt }),
		"one Note too many to 0":   withNotes("FMF0 FMF0", impl.MaxTrunkWay+1, "0O1"),
		"one Note too many to 1":   withNotes("FMF0 FMF0", impl.MaxTrunkWay+1, "1O1"),
		"far too many Notes":       withNotes("FMF0 FMF0", 1000, "1O1"),
		"a Note to 0 of kind 0":    changedTrunk(busy, func(t *impl.Trunk) { t.Way[0][1].Kind = 0 }),
		"a Note to 0 of kind 6":    changedTrunk(busy, func(t *impl.Trunk) { t.Way[0][1].Kind = 6 }),
		"a Note to 1 of kind 0":    changedTrunk(busy, func(t *impl.Trunk) { t.Way[1][0].Kind = 0 }),
		"a Note to 1 of kind 6":    changedTrunk(busy, func(t *impl.Trunk) { t.Way[1][1].Kind = 6 }),
		"a Note of kind below 0":   changedTrunk(busy, func(t *impl.Trunk) { t.Way[1][1].Kind = -1 }),
		"a Note to 0 about -1":     changedTrunk(busy, func(t *impl.Trunk) { t.Way[0][1].Circuit = -1 }),
		"a Note to 1 about -1":     changedTrunk(busy, func(t *impl.Trunk) { t.Way[1][1].Circuit = -1 }),
		"a Note to 0 one behind":   changedTrunk(busy, func(t *impl.Trunk) { t.Way[0][0].Circuit = 3 }),
		"a Note to 1 one behind":   changedTrunk(busy, func(t *impl.Trunk) { t.Way[1][1].Circuit = 3 }),
		"a Note about MaxCircuits": changedTrunk(busy, func(t *impl.Trunk) { t.Way[0][1].Circuit = impl.MaxCircuits - 1 }),
		"a Note about one far off": changedTrunk(busy, func(t *impl.Trunk) { t.Way[0][1].Circuit = math.MinInt }),
	}
}

// P6, P21: a trunk that is right, at the limits too.
func TestTrunkOk(t *testing.T) {
	most := impl.MaxCircuits
	good := map[string]impl.Trunk{
		"one circuit":             allFree(1, 1),
		"two circuits":            allFree(2, 2),
		"MaxCircuits":             allFree(most, most),
		"empty ways":              {Circuits: [2][]int{{0}, {0}}, Way: [2][]impl.Note{{}, {}}},
		"each way of seeing":      trunkOf("FAMTL0 LTMAF0"),
		"both say mine":           trunkOf("MM0 MM0"),
		"Lost at its most":        trunkOf("F1000000 F1000000"),
		"Lost of one side":        trunkOf("F0 F1000000"),
		"each kind to both":       trunkOf("FF0 FF0 0I0 0O1 0N0 0G1 0K0 1I1 1O0 1N1 1G0 1K1"),
		"MaxTrunkWay Notes to 0":  withNotes("FMF0 FMF0", impl.MaxTrunkWay, "0I0"),
		"MaxTrunkWay Notes to 1":  withNotes("FMF0 FMF0", impl.MaxTrunkWay, "1K2"),
		"MaxTrunkWay Notes each":  withNotes(textOfTrunk(withNotes("F0 F0", impl.MaxTrunkWay, "0I0")), impl.MaxTrunkWay, "1G0"),
		"about the last circuit":  {Circuits: allFree(most, most).Circuits, Way: [2][]impl.Note{{{Kind: impl.GiveOk, Circuit: most - 1}}, nil}},
		"Notes that nobody asked": trunkOf("F0 F0 0O0 1N0 0K0"),
	}
	for why, trunk := range good {
		if !impl.TrunkOk(trunk) {
			t.Errorf("%s: %v is not ok", why, trunk)
		}
	}
	for why, trunk := range wrongTrunks() {
		if impl.TrunkOk(trunk) {
			t.Errorf("%s: %v is ok", why, trunk)
		}
	}
}

// P6, P21: as many circuits as one another, from 1 to MaxCircuits.
func TestCircuitsOfTrunk(t *testing.T) {
	for n := range impl.MaxCircuits + 3 {
		for m := range impl.MaxCircuits + 3 {
			want := n == m && n >= 1 && n <= 24
			if got := impl.TrunkOk(allFree(n, m)); got != want {
				t.Errorf("%d and %d circuits: %v", n, m, got)
			}
		}
	}
}

// P6, P21: at each side each way of seeing a circuit, and each Lost.
func TestSidesOfTrunk(t *testing.T) {
	for side := range 2 {
		for how := -3; how <= 8; how++ {
			for place := range 3 {
				trunk := trunkOf("MAT0 TLM0")
				trunk.Circuits[side][place] = how
				want := slices.Contains([]int{0, 1, 2, 3, 4}, how)
				if got := impl.TrunkOk(trunk); got != want {
					t.Errorf("side %d, circuit %d seen as %d: %v", side, place, how, got)
				}
			}
		}
		losts := map[int]bool{-1: false, 0: true, 1: true, 999999: true, 1000000: true, 1000001: false}
		for lost, want := range losts {
			trunk := trunkOf("MAT0 TLM0")
			trunk.Lost[side] = lost
			if got := impl.TrunkOk(trunk); got != want {
				t.Errorf("side %d, Lost %d: %v", side, lost, got)
			}
		}
	}
}

// P6: a Note by its kind and its circuit, on each way.
func TestNotesOfTrunk(t *testing.T) {
	for side := range 2 {
		for kind := -2; kind <= 8; kind++ {
			for circuit := -2; circuit <= 5; circuit++ {
				trunk := trunkOf("MAT0 TLM0 0I0 0K2 1G1 1O2")
				trunk.Way[side] = slices.Insert(trunk.Way[side], 1, impl.Note{Kind: kind, Circuit: circuit})
				want := slices.Contains([]int{1, 2, 3, 4, 5}, kind) && slices.Contains([]int{0, 1, 2}, circuit)
				if got := impl.TrunkOk(trunk); got != want {
					t.Errorf("to %d, kind %d, circuit %d: %v", side, kind, circuit, got)
				}
			}
		}
	}
}

// P6, P21: so many free circuits at both sides, or the zero value.
func TestNewTrunk(t *testing.T) {
	for n := 1; n <= impl.MaxCircuits; n++ {
		got := impl.NewTrunk(n)
		if !sameTrunk(got, allFree(n, n)) || !impl.TrunkOk(got) || !impl.Settled(got) {
			t.Errorf("%d: %v", n, got)
		}
	}
	if got := impl.NewTrunk(3); textOfTrunk(got) != "FFF0 FFF0" {
		t.Errorf("three: %v", got)
	}
	for _, n := range []int{0, -1, impl.MaxCircuits + 1, 1000, math.MinInt, math.MaxInt} {
		if got := impl.NewTrunk(n); !sameTrunk(got, impl.Trunk{}) {
			t.Errorf("%d: %v", n, got)
		}
	}
}

// P6: whether it is settled, by each pair of ways of seeing a circuit.
func TestSettled(t *testing.T) {
	pairs := []string{"FF", "MT", "TM"}
	for _, a := range seenLetters {
		for _, b := range seenLetters {
			want := slices.Contains(pairs, string(a)+string(b))
			texts := []string{
				fmt.Sprintf("%c0 %c0", a, b),
				fmt.Sprintf("%cFMT4 %cFTM5", a, b),
				fmt.Sprintf("FM%cT0 FT%cM0", a, b),
				fmt.Sprintf("FMT%c0 FTM%c0", a, b),
			}
			for _, text := range texts {
				if got := impl.Settled(trunkOf(text)); got != want {
					t.Errorf("%s: %v", text, got)
				}
			}
		}
	}
	for _, text := range []string{"F0 F0", "M0 T0", "TM1 MT2"} {
		for _, word := range []string{"0I0", "1I0", "0O0", "1O0", "0K0", "1K0"} {
			if impl.Settled(trunkOf(text + " " + word)) {
				t.Errorf("%s with %s on the way is settled", text, word)
			}
		}
	}
	for why, trunk := range wrongTrunks() {
		if impl.Settled(trunk) {
			t.Errorf("%s: %v is settled", why, trunk)
		}
	}
	if !impl.Settled(trunkOf("FMT1000000 FTM1000000")) {
		t.Errorf("Lost at its most plays a part")
	}
}
