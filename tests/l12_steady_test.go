package tests

import (
	"cmp"
	"slices"
	"testing"

	"loop.example/g00052/impl"
)

// steadyBySorting sorts by what is asked: how late packets are, and their Seqs.
func steadyBySorting(packets []impl.Packet) (int, int) {
	late := slices.SortedFunc(slices.Values(packets), func(a impl.Packet, b impl.Packet) int {
		return cmp.Compare(a.Tick+30*b.Seq, b.Tick+30*a.Seq)
	})
	unlike := slices.SortedFunc(slices.Values(packets), func(a impl.Packet, b impl.Packet) int { return cmp.Compare(a.Seq, b.Seq) })
	unlike = slices.CompactFunc(unlike, func(a impl.Packet, b impl.Packet) bool { return a.Seq == b.Seq })
	least, most := late[0], late[len(late)-1]
	return most.Tick - least.Tick - 30*(most.Seq-least.Seq), len(packets) - len(unlike)
}

func checkSteady(t *testing.T, packets []impl.Packet, spread int, again int) {
	t.Helper()
	if a, b := impl.Steady(packets); a != spread || b != again {
		t.Errorf("%v: %d and %d, not %d and %d", packets, a, b, spread, again)
	}
}

// P12: known packets.
func TestKnownSteady(t *testing.T) {
	for _, c := range []struct {
		packets string
		spread  int
		again   int
	}{
		{"0@0", 0, 0},
		{"1000000@0", 0, 0},
		{"0@1000000000", 0, 0},
		{"7@9", 0, 0},
		{"0@0 1@30 2@60 3@90", 0, 0},
		{"3@95 4@125 5@155", 0, 0},
		{"2@60 0@0 3@90 1@30", 0, 0},
		{"0@0 1@31", 1, 0},
		{"0@0 1@29", 1, 0},
		{"0@1 1@30", 1, 0},
		{"0@0 1@0", 30, 0},
		{"1@0 0@0", 30, 0},
		{"0@0 1@30 2@65 3@80", 15, 0},
		{"4@0 6@31 5@40 7@95 7@100", 39, 1},
		{"5@10 5@10", 0, 1},
		{"5@10 5@17", 7, 1},
		{"5@17 5@10", 7, 1},
		{"5@10 5'@17 5!@12", 7, 2},
		{"5@0 6@30 5@0 6@30", 0, 2},
		{"5@0 6@30 5@0 6@30 5@0", 0, 3},
		{"5@0 5@0 6@0 6@0 7@0", 60, 2},
		{"9@500 3@20 9@0 3@90", 500, 2},
		{"0@1000000000 1000000@0", 1030000000, 0},
		{"1000000@0 0@1000000000", 1030000000, 0},
		{"0@0 1000000@1000000000", 970000000, 0},
		{"1000000@0 0@1000000000 0@1000000000", 1030000000, 1},
	} {
		checkSteady(t, packetsOf(c.packets), c.spread, c.again)
		if a, b := steadyBySorting(packetsOf(c.packets)); a != c.spread || b != c.again {
			t.Errorf("the second telling of %s is wrong: %d and %d", c.packets, a, b)
		}
	}
}

// P12: whichever way packets stand, it is the same.
func TestSteadyInEveryOrder(t *testing.T) {
	everyOrder(packetsOf("5@150 6@177 6@199 8@240 5@151 5@150"), func(list []impl.Packet) {
		checkSteady(t, list, 19+3, 3)
	})
}

// P12: many drawn packets, in whichever order and Ticks.
func TestSteadyOfDrawnPackets(t *testing.T) {
	r := drawn(1208)
	for range 5000 {
		var packets []impl.Packet
		near, seqs := 1+r.below(impl.MaxTick), 1+r.below(90)
		for range 1 + r.below(60) {
			packets = append(packets, impl.Packet{Tick: r.below(near), Seq: r.below(seqs) * (mostSeq / 90)})
		}
		spread, again := steadyBySorting(packets)
		checkSteady(t, packets, spread, again)
	}
}

// P12, P21: one packet, MaxFrames and one more; none.
func TestSteadySizes(t *testing.T) {
	for n := 1; n <= 60; n++ {
		checkSteady(t, manyPackets(n, 30), 0, 0)
		checkSteady(t, manyPackets(n, 31), n-1, 0)
		checkSteady(t, slices.Repeat(packetsOf("7@9"), n), 0, n-1)
	}
	for _, n := range []int{61, 62, 120, 1000} {
		checkSteady(t, manyPackets(n, 30), -1, -1)
		checkSteady(t, slices.Repeat(packetsOf("7@9"), n), -1, -1)
	}
	checkSteady(t, nil, -1, -1)
	checkSteady(t, []impl.Packet{}, -1, -1)
}

// P12, P21: packets that are none, at every place.
func TestSteadyOfWrongPackets(t *testing.T) {
	for _, n := range []int{1, 2, 5, 60} {
		for at := range n {
			for _, wrong := range wrongPackets() {
				list := manyPackets(n, 30)
				list[at] = wrong
				checkSteady(t, list, -1, -1)
			}
			for _, word := range []string{"0@0", "1000000@0", "0@1000000000", "1000000@1000000000"} {
				list := manyPackets(n, 30)
				list[at] = packetOf(word)
				spread, again := steadyBySorting(list)
				checkSteady(t, list, spread, again)
			}
		}
	}
	for _, wrong := range wrongPackets() {
		checkSteady(t, slices.Repeat([]impl.Packet{wrong}, 3), -1, -1)
		checkSteady(t, slices.Repeat([]impl.Packet{wrong}, 61), -1, -1)
	}
}

// P12: what is in a Frame plays no part.
func TestSteadyLooksAtNoFrame(t *testing.T) {
	for first := range 256 {
		list := packetsOf("5@150 6@177 6@199")
		list[1].Frame = [16]byte{byte(first), byte(first)}
		checkSteady(t, list, 22, 1)
	}
}
