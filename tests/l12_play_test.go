package tests

import (
	"slices"
	"testing"

	"loop.example/g00052/impl"
)

// secondLevels are what a frame tells from a level on, number by number.
func secondLevels(last int, frame [16]byte) ([]int, bool) {
	if frame[0] > 48 {
		return nil, false
	}
	c := coder(last, int(frame[0]))
	var levels []int
	for _, number := range foursOf(frame) {
		c = secondCoder(c, number)
		levels = append(levels, c.Last)
	}
	return levels, true
}

// secondFade tells a gap by how often 30 goes into each part of the size.
func secondFade(last int) []int {
	var levels []int
	for i := 1; i <= 30; i++ {
		size := 0
		if last != 0 {
			whole := sizeOf(last) * (30 - i)
			size = (whole - whole%30) / 30 * (last / sizeOf(last))
		}
		levels = append(levels, size)
	}
	return levels
}

// secondPlay looks for the frame wherever it stands, and takes it out.
func secondPlay(p impl.Player) (impl.Player, []int, bool) {
	if !playerIsRight(p) || p.Next == mostSeq || p.Gaps == 1000000000 {
		return p, nil, false
	}
	levels, heard := []int(nil), false
	var store []impl.Packet
	for _, k := range p.Store {
		if k.Seq == p.Next {
			levels, heard = secondLevels(p.Last, k.Frame)
		} else {
			store = append(store, k)
		}
	}
	if !heard {
		levels = secondFade(p.Last)
		p.Gaps++
	}
	p.Next, p.Last, p.Store = p.Next+1, levels[29], store
	return p, levels, true
}

// checkPlay wants what the second telling says, and answers it.
func checkPlay(t *testing.T, p impl.Player) (impl.Player, []int, bool) {
	t.Helper()
	want, told, wanted := secondPlay(copyOfPlayer(p))
	got, levels, ok := impl.Play(copyOfPlayer(p))
	if ok != wanted || !samePlayer(got, want) || !slices.Equal(levels, told) || wanted && !impl.PlayerOk(got) {
		t.Fatalf("Play(%s): %s, %v, %v; not %s, %v, %v", textOfPlayer(p), textOfPlayer(got), levels, ok, textOfPlayer(want), told, wanted)
	}
	return got, levels, ok
}

func checkPlayed(t *testing.T, p impl.Player, want impl.Player, told []int) {
	t.Helper()
	if got, levels, ok := impl.Play(p); !ok || !samePlayer(got, want) || !slices.Equal(levels, told) {
		t.Errorf("Play(%s): %s, %v, %v", textOfPlayer(p), textOfPlayer(got), levels, ok)
	}
}

// P12: a frame that is there is played from Last on, and leaves; what is behind
// it stays.
func TestPlayOfKnownFrame(t *testing.T) {
	behind := packetsOf("8@3 12!@1")
	before := impl.Player{Next: 7, Depth: 2, Late: 3, Gaps: 4, Last: 5, Store: append([]impl.Packet{{Tick: 9, Seq: 7, Frame: waveFrame}}, behind...)}
	checkPlayed(t, before, impl.Player{Next: 8, Depth: 2, Late: 3, Gaps: 4, Last: -1769, Store: behind}, waveTold[:])
	before.Store = before.Store[:1]
	checkPlayed(t, before, impl.Player{Next: 8, Depth: 2, Late: 3, Gaps: 4, Last: -1769}, waveTold[:])
}

// P12, P21: a frame whose first byte is 48 can be opened, one with 49 is a gap,
// and leaves too.
func TestPlayOfFrameThatCanNotBeOpened(t *testing.T) {
	behind := packetsOf("8@3 12@1")
	for first := range 256 {
		frame := waveFrame
		frame[0] = byte(first)
		before := impl.Player{Next: 7, Depth: 2, Last: -30, Store: append([]impl.Packet{{Tick: 9, Seq: 7, Frame: frame}}, behind...)}
		got, levels, ok := checkPlay(t, before)
		if want, _, can := impl.OfFrame(-30, frame); can != (first <= 48) || can && !slices.Equal(levels, want) {
			t.Errorf("first byte %d: %v", first, levels)
		}
		if !ok || (got.Gaps == 1) != (first > 48) || got.Next != 8 || !slices.Equal(got.Store, behind) {
			t.Errorf("first byte %d: %s, %v", first, textOfPlayer(got), ok)
		}
		if first > 48 && (got.Last != 0 || levels[0] != -29 || levels[28] != -1 || levels[29] != 0) {
			t.Errorf("first byte %d: %v", first, levels)
		}
	}
}

// P12: gaps from known levels: they are rounded towards 0, above it and below.
func TestKnownGaps(t *testing.T) {
	down := func(last int, told [30]int) {
		t.Helper()
		for _, sign := range []int{1, -1} {
			want := told
			for i := range want {
				want[i] *= sign
			}
			for _, store := range [][]impl.Packet{nil, packetsOf("8@0"), packetsOf("8@0 18@4")} {
				checkPlayed(t, impl.Player{Next: 7, Depth: 2, Late: 3, Gaps: 4, Last: sign * last, Store: store},
					impl.Player{Next: 8, Depth: 2, Late: 3, Gaps: 5, Store: store}, want[:])
			}
			broken := impl.Player{Next: 7, Depth: 1, Last: sign * last, Store: packetsOf("7!@0 8@0")}
			checkPlayed(t, broken, impl.Player{Next: 8, Depth: 1, Gaps: 1, Store: packetsOf("8@0")}, want[:])
		}
	}
	down(0, [30]int{})
	down(1, [30]int{})
	down(2, [30]int{1, 1, 1, 1, 1, 1, 1, 1, 1, 1, 1, 1, 1, 1, 1})
	down(29, [30]int{28, 27, 26, 25, 24, 23, 22, 21, 20, 19, 18, 17, 16, 15, 14, 13, 12, 11, 10, 9, 8, 7, 6, 5, 4, 3, 2, 1, 0, 0})
	down(30, [30]int{29, 28, 27, 26, 25, 24, 23, 22, 21, 20, 19, 18, 17, 16, 15, 14, 13, 12, 11, 10, 9, 8, 7, 6, 5, 4, 3, 2, 1, 0})
	down(31, [30]int{29, 28, 27, 26, 25, 24, 23, 22, 21, 20, 19, 18, 17, 16, 15, 14, 13, 12, 11, 10, 9, 8, 7, 6, 5, 4, 3, 2, 1, 0})
	down(100, [30]int{96, 93, 90, 86, 83, 80, 76, 73, 70, 66, 63, 60, 56, 53, 50, 46, 43, 40, 36, 33, 30, 26, 23, 20, 16, 13, 10, 6, 3, 0})
	down(32767, [30]int{
		31674, 30582, 29490, 28398, 27305, 26213, 25121, 24029, 22936, 21844, 20752, 19660, 18567, 17475, 16383,
		15291, 14199, 13106, 12014, 10922, 9830, 8737, 7645, 6553, 5461, 4368, 3276, 2184, 1092, 0,
	})
}

// P12: from every level there is, a gap falls to 0: it never grows in size, and
// never changes its sign.
func TestGapsFade(t *testing.T) {
	for last := -32767; last <= 32767; last++ {
		got, levels, ok := impl.Play(impl.Player{Next: 3, Depth: 1, Last: last})
		if !ok || got.Gaps != 1 || got.Last != 0 || !slices.Equal(levels, secondFade(last)) {
			t.Fatalf("from %d: %s, %v", last, textOfPlayer(got), levels)
		}
		before := last
		for i, level := range levels {
			if sizeOf(level) > sizeOf(before) || level*last < 0 || 30*sizeOf(level) > sizeOf(last)*(29-i) {
				t.Fatalf("from %d: %v", last, levels)
			}
			before = level
		}
	}
}

// P12: behind a gap all is still until a frame comes again, which is told from 0
// on.
func TestPlayBehindGaps(t *testing.T) {
	p := playerOf("50/2 last-4000 55@0")
	for i := range 5 {
		got, levels, ok := checkPlay(t, p)
		if !ok || got.Gaps != i+1 || i > 0 && !slices.Equal(levels, make([]int, 30)) {
			t.Fatalf("gap %d: %s, %v", i, textOfPlayer(got), levels)
		}
		p = got
	}
	want, _ := secondLevels(0, frameNo(55, ""))
	got, levels, ok := checkPlay(t, p)
	if !ok || !slices.Equal(levels, want) || got.Next != 56 || got.Gaps != 5 || len(got.Store) != 0 {
		t.Errorf("%s, %v", textOfPlayer(got), levels)
	}
}

// P12, P21: Gaps at its end refuses, also where a frame is there; so does Next.
func TestPlayAtTheEnds(t *testing.T) {
	for text, want := range map[string]bool{
		"50/1 gaps999999999":                       true,
		"50/1 gaps999999999 50@0":                  true,
		"50/1 gaps999999999 50!@0":                 true,
		"50/1 gaps1000000000":                      false,
		"50/1 gaps1000000000 50@0":                 false,
		"50/1 gaps1000000000 50!@0":                false,
		"50/1 gaps1000000000 51@0":                 false,
		"50/1 late1000000000 50@0":                 true,
		"50/1 late1000000000":                      true,
		"999999/1":                                 true,
		"999999/1 999999@0":                        true,
		"999999/1 999999@0 1000000@0":              true,
		"1000000/1":                                false,
		"1000000/1 1000000@0":                      false,
		"1000000/1 gaps1000000000 1000000@0":       false,
		"0/1":                                      true,
		"0/1 0@1000000000":                         true,
		"50/1 last32767":                           true,
		"50/1 last-32767":                          true,
		"50/1 last32767 50@0":                      true,
		"50/1 last-32767 50@0":                     true,
		"50/1 late1000000000 gaps999999999 last-1": true,
	} {
		p := playerOf(text)
		got, levels, ok := checkPlay(t, p)
		if ok != want || ok && (got.Next != p.Next+1 || len(levels) != 30) || !ok && (!samePlayer(got, p) || len(levels) != 0) {
			t.Errorf("%s: %s, %v, %v", text, textOfPlayer(got), levels, ok)
		}
	}
	for _, text := range []string{"50/1 gaps999999999", "50/1 gaps999999999 50!@0"} {
		if got, _, _ := impl.Play(playerOf(text)); got.Gaps != impl.MaxTick {
			t.Errorf("%s: %s", text, textOfPlayer(got))
		}
	}
	if got, _, _ := impl.Play(playerOf("50/1 gaps999999999 50@0")); got.Gaps != impl.MaxTick-1 {
		t.Errorf("a frame counted as a gap: %s", textOfPlayer(got))
	}
}

// P12: a player that is not PlayerOk stays as it was, and nothing is told.
func TestPlayOfWrongPlayers(t *testing.T) {
	for why, p := range wrongPlayers() {
		if got, levels, ok := impl.Play(copyOfPlayer(p)); ok || len(levels) != 0 || !samePlayer(got, p) {
			t.Errorf("%s: %s, %v, %v", why, textOfPlayer(got), levels, ok)
		}
	}
	for why, p := range rightPlayers() {
		if _, _, ok := checkPlay(t, p); ok != (why != "the greatest" && why != "one at the last Next") {
			t.Errorf("%s: %v", why, ok)
		}
	}
}

// P12: frames with every first byte and of every kind, from any level.
func TestPlayOfDrawnFrames(t *testing.T) {
	r := drawn(1202)
	for range 20000 {
		k := impl.Packet{Tick: r.below(impl.MaxTick), Seq: r.below(mostSeq)}
		for i := range k.Frame {
			k.Frame[i] = byte(r.below(256))
		}
		k.Frame[0] %= 52
		checkPlay(t, impl.Player{Next: k.Seq, Depth: 1, Last: r.below(65535) - 32767, Store: []impl.Packet{k}})
	}
}

// P12: long runs of Puts and Plays, in any order, keep the player right.
func TestDrawnPlayers(t *testing.T) {
	r := drawn(1203)
	for range 800 {
		p := impl.Player{Next: r.below(100), Depth: 1 + r.below(12), Last: r.below(65535) - 32767}
		if r.below(4) == 0 {
			p.Next = mostSeq - r.below(30)
		}
		if r.below(4) == 0 {
			p.Late, p.Gaps = impl.MaxTick-r.below(9), impl.MaxTick-r.below(9)
		}
		often := 1 + r.below(4)
		for range 60 {
			if r.below(often+1) == 0 {
				p, _, _ = checkPlay(t, p)
				continue
			}
			k := impl.Packet{Tick: r.below(impl.MaxTick + 2), Seq: p.Next + r.below(18) - 3}
			k.Frame = frameNo(r.below(1000), []string{"", "", "", "!"}[r.below(4)])
			p, _ = checkPut(t, p, k)
			if got, want := impl.Ready(p), len(p.Store) >= p.Depth || len(p.Store) > 0 && p.Store[len(p.Store)-1].Seq-p.Next >= p.Depth; got != want {
				t.Fatalf("%s: ready %v", textOfPlayer(p), got)
			}
		}
	}
}

// P12: frames that are put in whatever order are played in theirs, and those
// that are put twice are played once.
func TestPlayedInTheirOrder(t *testing.T) {
	packets := packetsOf("50@0 51@30 52@60 53@90 54@120")
	var want []int
	last := 0
	for _, k := range packets {
		levels, _ := secondLevels(last, k.Frame)
		want, last = append(want, levels...), levels[29]
	}
	everyOrder(packets, func(list []impl.Packet) {
		for _, twice := range []bool{false, true} {
			p := playerOf("50/5")
			for _, k := range list {
				p, _ = impl.Put(p, k)
				if twice {
					p, _ = impl.Put(p, list[0])
				}
			}
			var got []int
			for range list {
				var levels []int
				p, levels, _ = impl.Play(p)
				got = append(got, levels...)
			}
			if !slices.Equal(got, want) || p.Gaps != 0 || len(p.Store) != 0 || (p.Late == 0) == twice {
				t.Fatalf("%v: %s", list, textOfPlayer(p))
			}
		}
	})
}
