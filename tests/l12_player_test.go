package tests

import (
	"fmt"
	"slices"
	"strings"
	"testing"

	"loop.example/g00052/impl"
)

const mostSeq = 1000000

// The tests of jitter write Packets as text, each by its Seq and its Tick: "4@0
// 6@31". Which Frame it has hangs on its Seq; with "'" behind the Seq it is
// another one, and with "!" one that can't be opened. A player is its Next and
// Depth, then, where they are not 0, its Late, Gaps and Last, then its Store:
// "4/2 late3 gaps1 last-500 4@0 6@31".

// frameNo is a Frame that no other Seq nearby has.
func frameNo(seq int, mark string) [16]byte {
	r := drawn(seq*7919 + 12*len(mark) + 1)
	frame := [16]byte{byte(r.below(49))}
	for i := 1; i < 16; i++ {
		frame[i] = byte(r.below(256))
	}
	if mark == "!" {
		frame[0] = 49
	}
	return frame
}

// splitMark takes what stands behind a Seq off it.
func splitMark(word string) (string, string) {
	seq := strings.TrimRight(word, "'!")
	return seq, word[len(seq):]
}

func packetOf(word string) impl.Packet {
	head, tick, _ := strings.Cut(word, "@")
	seq, mark := splitMark(head)
	var k impl.Packet
	mustScan(seq, "%d", &k.Seq)
	mustScan(tick, "%d", &k.Tick)
	k.Frame = frameNo(k.Seq, mark)
	return k
}

func packetsOf(text string) []impl.Packet {
	var list []impl.Packet
	for _, word := range strings.Fields(text) {
		list = append(list, packetOf(word))
	}
	return list
}

func playerOf(text string) impl.Player {
	var p impl.Player
	words := strings.Fields(text)
	mustScan(words[0], "%d/%d", &p.Next, &p.Depth)
	for _, word := range words[1:] {
		switch {
		case strings.HasPrefix(word, "late"):
			mustScan(word, "late%d", &p.Late)
		case strings.HasPrefix(word, "gaps"):
			mustScan(word, "gaps%d", &p.Gaps)
		case strings.HasPrefix(word, "last"):
			mustScan(word, "last%d", &p.Last)
		default:
			p.Store = append(p.Store, packetOf(word))
		}
	}
	return p
}

// textOfPlayer tells no Frames.
func textOfPlayer(p impl.Player) string {
	text := fmt.Sprintf("%d/%d late%d gaps%d last%d", p.Next, p.Depth, p.Late, p.Gaps, p.Last)
	for _, k := range p.Store {
		text += fmt.Sprintf(" %d@%d", k.Seq, k.Tick)
	}
	return text
}

func samePlayer(a impl.Player, b impl.Player) bool {
	return a.Next == b.Next && a.Depth == b.Depth && a.Late == b.Late && a.Gaps == b.Gaps && a.Last == b.Last && slices.Equal(a.Store, b.Store)
}

func copyOfPlayer(p impl.Player) impl.Player {
	p.Store = slices.Clone(p.Store)
	return p
}

func changedPlayer(text string, change func(p *impl.Player)) impl.Player {
	p := playerOf(text)
	change(&p)
	return p
}

// storeFrom are n Packets one after the other.
func storeFrom(seq int, n int) []impl.Packet {
	var list []impl.Packet
	for i := range n {
		list = append(list, packetOf(fmt.Sprintf("%d@%d", seq+i, 7*i)))
	}
	return list
}

const busyPlayer = "100/3 late4 gaps5 last-600 100@9 101@0 104!@1000000000 111@30"

// rightPlayers are at the edges, by what is there.
func rightPlayers() map[string]impl.Player {
	return map[string]impl.Player{
		"the least":              playerOf("0/1"),
		"the greatest":           playerOf("1000000/12 late1000000000 gaps1000000000 last32767 1000000@1000000000"),
		"the least Last":         playerOf("0/1 last-32767 0@0"),
		"a busy one":             playerOf(busyPlayer),
		"a full Store":           {Next: 5, Depth: 1, Store: storeFrom(5, 12)},
		"a full Store at an end": {Next: 999989, Depth: 12, Store: storeFrom(999989, 12)},
		"one at Next":            playerOf("50/1 50@0"),
		"one ahead":              playerOf("50/1 51@0"),
		"the last one":           playerOf("50/1 61@0"),
		"the last one from 0":    playerOf("0/1 11@0"),
		"both ends":              playerOf("50/1 50@0 61@0"),
		"Ticks that fall":        playerOf("50/1 50@9 51@8 52@7 53@8"),
		"Ticks alike":            playerOf("50/1 50@9 51@9 52@9"),
		"frames that are none":   playerOf("50/1 50!@9 51!@9"),
		"one at the last Next":   playerOf("1000000/1 1000000@0"),
		"the last Seq":           playerOf("999989/1 1000000@0"),
	}
}

// wrongPlayers have one fault each, by what it is.
func wrongPlayers() map[string]impl.Player {
	all := map[string]impl.Player{
		"the zero value":             {},
		"Next below 0":               playerOf("-1/1"),
		"Next too great":             playerOf("1000001/1"),
		"Depth 0":                    playerOf("0/0"),
		"Depth below 0":              playerOf("0/-1"),
		"Depth too great":            playerOf("0/13"),
		"Late below 0":               playerOf("0/1 late-1"),
		"Late too great":             playerOf("0/1 late1000000001"),
		"Gaps below 0":               playerOf("0/1 gaps-1"),
		"Gaps too great":             playerOf("0/1 gaps1000000001"),
		"Last too great":             playerOf("0/1 last32768"),
		"Last too little":            playerOf("0/1 last-32768"),
		"one too many":               {Next: 5, Depth: 1, Store: storeFrom(5, 13)},
		"one too many, twice":        {Next: 5, Depth: 1, Store: slices.Insert(storeFrom(5, 12), 4, storeFrom(8, 1)...)},
		"far too many":               {Next: 5, Depth: 1, Store: storeFrom(5, 100)},
		"just below Next":            playerOf("50/1 49@0"),
		"one below Next of two":      playerOf("50/1 49@0 50@0"),
		"far below Next":             playerOf("50/1 0@0"),
		"at Next and MaxAhead":       playerOf("50/1 62@0"),
		"the last at that":           playerOf("50/1 50@0 55@0 62@0"),
		"at 12 from 0":               playerOf("0/1 12@0"),
		"far ahead":                  playerOf("50/1 1000000@0"),
		"alike at the beginning":     playerOf("50/1 50@0 50@0 55@0"),
		"alike at the end":           playerOf("50/1 50@0 55@0 55'@1"),
		"falling at the beginning":   playerOf("50/1 51@0 50@0 55@0"),
		"falling at the end":         playerOf("50/1 50@0 55@0 54@0"),
		"falling in the middle":      playerOf("50/1 50@0 53@0 52@0 54@0"),
		"a Tick below 0":             playerOf("50/1 50@-1"),
		"a Tick too great":           playerOf("50/1 50@1000000001"),
		"the last Tick below 0":      playerOf("50/1 50@0 51@0 52@-1"),
		"the last Tick too great":    playerOf("50/1 50@0 51@0 52@1000000001"),
		"a Seq too great":            playerOf("999995/1 1000001@0"),
		"the last Seq too great":     playerOf("999995/1 999995@0 1000001@0"),
		"a Seq too great at the end": playerOf("1000000/1 1000000@0 1000001@0"),
		"a Seq below 0":              playerOf("0/1 -1@0"),
	}
	for _, n := range endsAround() {
		all[fmt.Sprint("Next ", n)] = changedPlayer(busyPlayer, func(p *impl.Player) { p.Next = n })
		all[fmt.Sprint("empty, Next ", n)] = changedPlayer("0/1", func(p *impl.Player) { p.Next = n })
		all[fmt.Sprint("Depth ", n)] = changedPlayer(busyPlayer, func(p *impl.Player) { p.Depth = n })
		all[fmt.Sprint("Late ", n)] = changedPlayer(busyPlayer, func(p *impl.Player) { p.Late = n })
		all[fmt.Sprint("Gaps ", n)] = changedPlayer(busyPlayer, func(p *impl.Player) { p.Gaps = n })
		all[fmt.Sprint("Last ", n)] = changedPlayer(busyPlayer, func(p *impl.Player) { p.Last = n })
		all[fmt.Sprint("Tick ", n)] = changedPlayer(busyPlayer, func(p *impl.Player) { p.Store[1].Tick = n })
		all[fmt.Sprint("Seq ", n)] = changedPlayer(busyPlayer, func(p *impl.Player) { p.Store[3].Seq = n })
	}
	return all
}

func packetIsRight(k impl.Packet) bool {
	return k.Tick >= 0 && k.Tick <= 1000000000 && k.Seq >= 0 && k.Seq <= mostSeq
}

// playerIsRight sorts the Seqs and throws away what is there twice: a Store
// that is right stays as it is.
func playerIsRight(p impl.Player) bool {
	var seqs []int
	for _, k := range p.Store {
		if !packetIsRight(k) {
			return false
		}
		seqs = append(seqs, k.Seq)
	}
	sorted := slices.Compact(slices.Sorted(slices.Values(seqs)))
	if !slices.Equal(seqs, sorted) || len(seqs) > 12 {
		return false
	}
	if len(sorted) > 0 && (sorted[0] < p.Next || sorted[len(sorted)-1] > p.Next+11) {
		return false
	}
	return p.Next >= 0 && p.Next <= mostSeq && p.Depth >= 1 && p.Depth <= 12 && p.Late >= 0 && p.Late <= 1000000000 &&
		p.Gaps >= 0 && p.Gaps <= 1000000000 && p.Last >= -32767 && p.Last <= 32767
}

// P12: players that are right and that are not.
func TestPlayerOk(t *testing.T) {
	for why, p := range rightPlayers() {
		if !impl.PlayerOk(p) {
			t.Errorf("%s: %s is not ok", why, textOfPlayer(p))
		}
	}
	for why, p := range wrongPlayers() {
		if impl.PlayerOk(p) {
			t.Errorf("%s: %s is ok", why, textOfPlayer(p))
		}
	}
}

// checkPlayerEnds tries numbers at one place of a player; those from least to
// most are right there.
func checkPlayerEnds(t *testing.T, what string, text string, least int, most int, put func(p *impl.Player, n int)) {
	t.Helper()
	for _, n := range endsAround(0, least, most, 12, 255, mostSeq, impl.MaxTick) {
		p := changedPlayer(text, func(p *impl.Player) { put(p, n) })
		if got, want := impl.PlayerOk(p), n >= least && n <= most; got != want {
			t.Errorf("%s %d: %v", what, n, got)
		}
	}
}

// P12, P21: each number at both its ends, and one past them.
func TestPlayerEnds(t *testing.T) {
	checkPlayerEnds(t, "Next", "0/1", 0, mostSeq, func(p *impl.Player, n int) { p.Next = n })
	checkPlayerEnds(t, "Next, with a Store", "0/1 500@0", 489, 500, func(p *impl.Player, n int) { p.Next = n })
	checkPlayerEnds(t, "Next, with one Seq at its end", "0/1 1000000@0", 999989, mostSeq, func(p *impl.Player, n int) { p.Next = n })
	for _, text := range []string{"0/1", busyPlayer, "1000000/12 1000000@0"} {
		checkPlayerEnds(t, "Depth", text, 1, 12, func(p *impl.Player, n int) { p.Depth = n })
		checkPlayerEnds(t, "Late", text, 0, impl.MaxTick, func(p *impl.Player, n int) { p.Late = n })
		checkPlayerEnds(t, "Gaps", text, 0, impl.MaxTick, func(p *impl.Player, n int) { p.Gaps = n })
		checkPlayerEnds(t, "Last", text, -32767, 32767, func(p *impl.Player, n int) { p.Last = n })
	}
	for place := range 4 {
		checkPlayerEnds(t, "Tick", busyPlayer, 0, impl.MaxTick, func(p *impl.Player, n int) { p.Store[place].Tick = n })
	}
	for place, ends := range [][2]int{{100, 100}, {101, 103}, {102, 110}, {105, 111}} {
		checkPlayerEnds(t, fmt.Sprint("Seq at ", place), busyPlayer, ends[0], ends[1], func(p *impl.Player, n int) { p.Store[place].Seq = n })
	}
	checkPlayerEnds(t, "a Seq near the end", "999995/1 999999@0", 999995, mostSeq, func(p *impl.Player, n int) { p.Store[0].Seq = n })
	checkPlayerEnds(t, "a Seq from 0 on", "0/1 4@0", 0, 11, func(p *impl.Player, n int) { p.Store[0].Seq = n })
}

// P12, P21: a Store of MaxAhead Packets, and of one more.
func TestStoreSizes(t *testing.T) {
	for n := range 30 {
		p := impl.Player{Next: 7, Depth: 1, Store: storeFrom(7, n)}
		if got := impl.PlayerOk(p); got != (n <= 12) {
			t.Errorf("%d in the Store: %v", n, got)
		}
	}
}

// P12: every Store of up to three Packets from just below Next to past the last.
func TestEverySmallStore(t *testing.T) {
	var seqs []int
	for seq := 18; seq <= 34; seq++ {
		seqs = append(seqs, seq)
	}
	try := func(list ...int) {
		p := impl.Player{Next: 20, Depth: 2}
		for _, seq := range list {
			p.Store = append(p.Store, impl.Packet{Seq: seq, Tick: 40 - seq})
		}
		if got, want := impl.PlayerOk(p), playerIsRight(p); got != want {
			t.Errorf("%s: %v", textOfPlayer(p), got)
		}
	}
	for _, a := range seqs {
		try(a)
		for _, b := range seqs {
			try(a, b)
			for _, c := range seqs {
				try(a, b, c)
			}
		}
	}
}

// P12: a Store of one Packet fewer than Depth is too little, just Depth is
// enough, whatever the Depth, with the Seqs so near that none is far ahead.
func TestReadyByCount(t *testing.T) {
	for depth := 1; depth <= 12; depth++ {
		for n := range 13 {
			p := impl.Player{Next: 30, Depth: depth, Store: storeFrom(30, n)}
			if got := impl.Ready(p); got != (n >= depth) {
				t.Errorf("Depth %d, %d in the Store: %v", depth, n, got)
			}
		}
	}
}

// P12: one Packet alone is enough from Next and Depth on.
func TestReadyByOneAhead(t *testing.T) {
	for _, next := range []int{0, 30, 999980} {
		for depth := 1; depth <= 12; depth++ {
			for ahead := range 12 {
				p := impl.Player{Next: next, Depth: depth, Store: storeFrom(next+ahead, 1)}
				if got := impl.Ready(p); got != (depth == 1 || ahead >= depth) {
					t.Errorf("Depth %d, %d ahead of %d: %v", depth, ahead, next, got)
				}
			}
		}
	}
}

func TestReadyOfKnownPlayers(t *testing.T) {
	for text, want := range map[string]bool{
		"0/1":                           false,
		"0/12":                          false,
		"0/1 0@0":                       true,
		"0/1 0!@0":                      true,
		"0/2 0@0":                       false,
		"0/2 1@0":                       false,
		"0/2 2@0":                       true,
		"0/2 1@0 2@0":                   true,
		"0/3 0@0 1@0":                   false,
		"0/3 0@0 2@0":                   false,
		"0/3 0@0 3@0":                   true,
		"0/3 1@0 2@0":                   false,
		"0/3 1@0 2@0 3@0":               true,
		"0/12 11@0":                     false,
		"0/11 11@0":                     true,
		"0/11 10@0":                     false,
		"1000000/1 1000000@0":           true,
		"1000000/2 1000000@0":           false,
		"999995/5 1000000@0":            true,
		"999995/6 1000000@0":            false,
		"50/2 late1000000000 52@0":      true,
		"50/2 gaps1000000000 52@0":      true,
		"50/3 last32767 50@9 51@8 52@7": true,
	} {
		if got := impl.Ready(playerOf(text)); got != want {
			t.Errorf("%s: %v", text, got)
		}
	}
}

// P12: a player that is not PlayerOk is never ready, however much it has.
func TestReadyOfWrongPlayers(t *testing.T) {
	for why, p := range wrongPlayers() {
		if impl.Ready(p) {
			t.Errorf("%s: %s is ready", why, textOfPlayer(p))
		}
	}
	for _, full := range []string{"0/1 0@0 3@0", "50/1 50@0 51@0 52@0"} {
		for what, change := range map[string]func(p *impl.Player){
			"Next":  func(p *impl.Player) { p.Next = -1 },
			"Depth": func(p *impl.Player) { p.Depth = 0 },
			"Late":  func(p *impl.Player) { p.Late = -1 },
			"Gaps":  func(p *impl.Player) { p.Gaps = impl.MaxTick + 1 },
			"Last":  func(p *impl.Player) { p.Last = 32768 },
			"Seq":   func(p *impl.Player) { p.Store[1].Seq = p.Next + 12 },
			"Tick":  func(p *impl.Player) { p.Store[1].Tick = -1 },
		} {
			if p := changedPlayer(full, change); impl.Ready(p) || !impl.Ready(playerOf(full)) {
				t.Errorf("%s of %s", what, full)
			}
		}
	}
}
