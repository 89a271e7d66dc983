package tests

import (
	"fmt"
	"slices"
	"strings"
	"testing"

	"loop.example/g00052/impl"
)

// levelsOfFrames are the levels of frames that are played one after the other,
// each by its Seq and what marks it, or "-" for a gap: "4 5' - 7".
func levelsOfFrames(text string) []int {
	var all []int
	last := 0
	for _, word := range strings.Fields(text) {
		levels := secondFade(last)
		if word != "-" {
			levels, _ = secondLevels(last, packetOf(word+"@0").Frame)
		}
		all, last = append(all, levels...), levels[29]
	}
	return all
}

func checkNotHeard(t *testing.T, why string, packets []impl.Packet, depth int, count int) {
	t.Helper()
	if levels, p, ok := impl.Hear12(packets, depth, count); ok || len(levels) != 0 || !samePlayer(p, impl.Player{}) {
		t.Errorf("%s: %d levels, %s, %v", why, len(levels), textOfPlayer(p), ok)
	}
}

// P12: known packets: what is played, and the player behind it (without its
// Last, which is the last level).
func TestKnownHearings(t *testing.T) {
	for _, c := range []struct {
		packets string
		depth   int
		count   int
		frames  string
		player  string
	}{
		{"4@0", 1, 0, "4", "5/1"},
		{"4@0", 2, 0, "", "4/2 4@0"},
		{"4@0", 12, 0, "", "4/12 4@0"},
		{"4@0", 2, 1, "4", "5/2"},
		{"4@0", 2, 3, "4 - -", "7/2 gaps2"},
		{"4!@0", 1, 1, "- -", "6/1 gaps2"},
		{"0@1000000000", 1, 1, "0 -", "2/1 gaps1"},
		// In order: it begins with the packet that makes Depth full.
		{"4@0 5@0 6@0 7@0", 1, 0, "4 5 6 7", "8/1"},
		{"4@0 5@30 6@60 7@90", 2, 0, "4 5 6", "7/2 7@90"},
		{"4@0 5@30 6@60 7@90", 2, 1, "4 5 6 7", "8/2"},
		{"4@0 5@30 6@60 7@90", 4, 0, "4", "5/4 5@30 6@60 7@90"},
		{"4@0 5@30 6@60 7@90", 5, 0, "", "4/5 4@0 5@30 6@60 7@90"},
		{"4@0 5@30 6@60 7@90", 5, 6, "4 5 6 7 - -", "10/5 gaps2"},
		// It begins with one far ahead, and not with one just below that.
		{"4@0 7@1", 3, 0, "4", "5/3 7@1"},
		{"4@0 6@1", 3, 0, "", "4/3 4@0 6@1"},
		{"4@0 15@1 5@2 6@3", 11, 1, "4 5 6 -", "8/11 gaps1 15@1"},
		{"4@0 15@1 5@2 6@3", 12, 1, "4", "5/12 5@2 6@3 15@1"},
		// Ready or not, it goes on once it has begun.
		{"4@0 5@0 5@0 5@0 9@0", 2, 1, "4 5 - - -", "9/2 late2 gaps3 9@0"},
		{"4@0 4@0 4@0 5@0", 1, 0, "4 - - -", "8/1 late3 gaps3"},
		{"4@0 4@0 4@0 5@0", 2, 0, "4", "5/2 late2 5@0"},
		// Each two exchanged.
		{"4@0 6@31 5@40 8@70 7@95", 2, 2, "4 5 6 7 8 -", "10/2 gaps1"},
		{"4@0 6@31 5@40 8@70 7@95", 3, 3, "4 5 6 7 8 -", "10/3 gaps1"},
		{"4@0 6@31 5@40 8@70 7@95", 1, 0, "4 - 6 - 8", "9/1 late2 gaps2"},
		// Missing ones, and ones that can't be opened.
		{"4@0 5@30 7@90 8@120", 2, 2, "4 5 - 7 8", "9/2 gaps1"},
		{"4@0 5!@30 6@60 7!@90 8@120", 2, 1, "4 - 6 - 8", "9/2 gaps2"},
		{"4!@0 4@0 5@30", 2, 1, "- 5", "6/2 late1 gaps1"},
		// Twice: the first one counts.
		{"4@0 4'@0 5@30 5'@30 6@60", 3, 2, "4 5 6", "7/3 late2"},
		{"4'@0 4@0 5'@30 5@30 6@60", 3, 2, "4' 5' 6", "7/3 late2"},
		// Too late, and too early.
		{"4@0 3@0 5@0", 2, 1, "4 5", "6/2 late1"},
		{"4@0 16@0 5@0", 2, 1, "4 5", "6/2 late1"},
		{"4@0 15@0 5@0", 2, 1, "4 5 -", "7/2 gaps1 15@0"},
		{"4@0 5@0 16@0 17@0 18@0", 2, 0, "4 5 - -", "8/2 gaps2 16@0 17@0 18@0"},
		{"4@0 5@0 17@0", 2, 0, "4 5", "6/2 late1"},
		{"4@0 5@0 6@0 4@9 5@9 5@9", 2, 0, "4 5 6 - -", "9/2 late3 gaps2"},
		{"4@0 4000@0 4001@0 3@0 5@0", 2, 1, "4 5", "6/2 late3"},
		// Next at its end.
		{"999999@0", 1, 0, "999999", "1000000/1"},
		{"1000000@0", 2, 0, "", "1000000/2 1000000@0"},
		{"999999@0 1000000@0", 2, 0, "999999", "1000000/2 1000000@0"},
		{"999998@0 1000000@0", 2, 1, "999998 -", "1000000/2 gaps1 1000000@0"},
	} {
		want, told := playerOf(c.player), levelsOfFrames(c.frames)
		if len(told) > 0 {
			want.Last = told[len(told)-1]
		}
		got, p, ok := impl.Hear12(packetsOf(c.packets), c.depth, c.count)
		if !ok || !slices.Equal(got, told) || !samePlayer(p, want) {
			t.Errorf("%s, depth %d, count %d: %d levels, %s, %v", c.packets, c.depth, c.count, len(got), textOfPlayer(p), ok)
		}
		checkHeard12(t, packetsOf(c.packets), c.depth, c.count)
	}
}

// beginOf is with which packet a player begins, or how many there are: from the
// first one's Seq on, depth of those in reach are there, or one that far ahead.
func beginOf(packets []impl.Packet, depth int) int {
	there := map[int]int{}
	for i, k := range packets {
		ahead := k.Seq - packets[0].Seq
		if ahead >= 0 && ahead < 12 {
			there[ahead]++
		}
		if len(there) >= depth || ahead >= depth && ahead < 12 {
			return i
		}
	}
	return len(packets)
}

// hearByDue plays nothing one by one: behind the packet it begins with, Next is
// one more at each, so it is known of every packet whether it comes in time.
func hearByDue(packets []impl.Packet, depth int, count int) ([]int, impl.Player, bool) {
	begin := beginOf(packets, depth)
	first, frames := packets[0].Seq, len(packets)-begin+count
	p := impl.Player{Next: first + frames, Depth: depth}
	if p.Next > mostSeq {
		return nil, impl.Player{}, false
	}
	taken := map[int]impl.Packet{}
	for i, k := range packets {
		next := first + max(0, i-begin)
		if _, twice := taken[k.Seq]; twice || k.Seq < next || k.Seq > next+11 {
			p.Late++
		} else {
			taken[k.Seq] = k
		}
	}
	var all []int
	for seq := first; seq < p.Next; seq++ {
		levels, heard := []int(nil), false
		if k, there := taken[seq]; there {
			levels, heard = secondLevels(p.Last, k.Frame)
		}
		if !heard {
			levels = secondFade(p.Last)
			p.Gaps++
		}
		all, p.Last = append(all, levels...), levels[29]
	}
	for seq := p.Next; seq < p.Next+12; seq++ {
		if k, there := taken[seq]; there {
			p.Store = append(p.Store, k)
		}
	}
	return all, p, true
}

// checkHeard12 wants what the second telling says of packets that are right,
// and answers it.
func checkHeard12(t *testing.T, packets []impl.Packet, depth int, count int) ([]int, impl.Player, bool) {
	t.Helper()
	told, want, wanted := hearByDue(packets, depth, count)
	levels, p, ok := impl.Hear12(slices.Clone(packets), depth, count)
	if ok != wanted || !slices.Equal(levels, told) || !samePlayer(p, want) || ok && !impl.PlayerOk(p) {
		t.Fatalf("%v, depth %d, count %d: %d levels, %s, %v; not %d, %s, %v",
			packets, depth, count, len(levels), textOfPlayer(p), ok, len(told), textOfPlayer(want), wanted)
	}
	return levels, p, ok
}

// P12: all few packets of some Seqs, near the first one and far off.
func TestEveryFewPackets(t *testing.T) {
	seqs := strings.Fields("20@0 21@0 22@0 23!@0 19@0 31@0 32@0")
	var grow func(list []impl.Packet)
	grow = func(list []impl.Packet) {
		for depth := 1; len(list) > 0 && depth <= 3; depth++ {
			for count := range 3 {
				checkHeard12(t, list, depth, count)
			}
		}
		if len(list) == 4 {
			return
		}
		for _, word := range seqs {
			grow(append(slices.Clone(list), packetOf(word)))
		}
	}
	grow(nil)
}

// drawPackets draws n packets that are right: in order, exchanged, with some
// missing, twice, far off or not to be opened.
func drawPackets(r *drawn, n int) []impl.Packet {
	first, apart, often := r.below(5000), 1+r.below(10), 2+r.below(8)
	if r.below(8) == 0 {
		first = mostSeq - r.below(120)
	}
	var list []impl.Packet
	tick := r.below(1000)
	for i := range n {
		seq := first + i + r.below(apart) - apart/2
		switch r.below(6 * often) {
		case 0:
			first++
		case 1:
			first--
		case 2:
			seq += r.below(40) - 20
		case 3:
			seq = r.below(mostSeq)
		}
		seq = max(0, min(seq, mostSeq))
		list = append(list, impl.Packet{Tick: tick, Seq: seq, Frame: frameNo(seq, []string{"", "", "", "", "", "'", "!"}[r.below(7)])})
		tick += r.below(60)
	}
	return list
}

// P12: many drawn hearings of every size, depth and count.
func TestDrawnHearings(t *testing.T) {
	r := drawn(1204)
	heard := map[string]int{}
	for range 5000 {
		packets := drawPackets(&r, 1+r.below(60))
		_, p, ok := checkHeard12(t, packets, 1+r.below(12), r.below(61))
		for what, is := range map[string]bool{
			"false": !ok, "late": p.Late > 0, "none late": ok && p.Late == 0, "gaps": p.Gaps > 0, "a Store": len(p.Store) > 0,
		} {
			if is {
				heard[what]++
			}
		}
	}
	for _, what := range []string{"false", "late", "none late", "gaps", "a Store"} {
		if heard[what] < 100 {
			t.Errorf("%s came %d times only", what, heard[what])
		}
	}
}

// inTime tells whether each packet comes ahead of its turn, and not too early.
func inTime(packets []impl.Packet, depth int) bool {
	begin := beginOf(packets, depth)
	for i, k := range packets {
		if due := packets[0].Seq + max(0, i-begin); k.Seq < due || k.Seq >= due+12 {
			return false
		}
	}
	return true
}

// P12: frames that come in time are played as if they had come in order, over
// many drawn orders.
func TestInTimeAsInOrder(t *testing.T) {
	r := drawn(1205)
	tried := 0
	for range 40000 {
		n, depth := 2+r.below(40), 1+r.below(12)
		order := make([]impl.Packet, n)
		var want string
		for i := range order {
			order[i] = impl.Packet{Seq: 300 + i, Frame: frameNo(300+i, "")}
			want += fmt.Sprint(300+i, " ")
		}
		mixed := slices.Clone(order)
		for range 1 + r.below(n) {
			at := 1 + r.below(n-1)
			to := min(at+r.below(1+depth), n-1)
			mixed[at], mixed[to] = mixed[to], mixed[at]
		}
		if !inTime(mixed, depth) || slices.Equal(mixed, order) {
			continue
		}
		tried++
		told := levelsOfFrames(want)
		for _, list := range [][]impl.Packet{order, mixed} {
			levels, p, ok := impl.Hear12(list, depth, min(n, depth))
			if !ok || len(levels) < len(told) || !slices.Equal(levels[:len(told)], told) || p.Late != 0 || p.Gaps != len(levels)/30-n {
				t.Fatalf("%v, depth %d: %d levels, %s, %v", list, depth, len(levels), textOfPlayer(p), ok)
			}
		}
	}
	if tried < 4000 {
		t.Errorf("only %d were in time and out of order", tried)
	}
}

// P12: every order of few frames, all of them in time as the player begins late.
func TestEveryOrderInTime(t *testing.T) {
	packets := packetsOf("50@0 51@0 52@0 53@0 54@0 55@0")
	told := levelsOfFrames("50 51 52 53 54 55 - -")
	everyOrder(slices.Clone(packets[1:]), func(behind []impl.Packet) {
		list := append(packets[:1:1], behind...)
		levels, p, ok := impl.Hear12(list, 6, 7)
		if !ok || !slices.Equal(levels, told) || !samePlayer(p, playerOf("58/6 gaps2")) {
			t.Fatalf("%v: %d levels, %s, %v", list, len(levels), textOfPlayer(p), ok)
		}
	})
}

// P12: packets that come twice ahead of the beginning are played once: all is
// as without them, but for Late.
func TestTwiceIsPlayedOnce(t *testing.T) {
	r := drawn(1206)
	for range 3000 {
		n, count := 1+r.below(11), r.below(30)
		var once, twice []impl.Packet
		for i := range n {
			once = append(once, packetOf(fmt.Sprintf("%d@%d", 700+i, 30*i)))
			twice = append(twice, once[i])
			for range r.below(4) {
				k := once[r.below(i+1)]
				k.Tick, k.Frame = 30*i, frameNo(r.below(50), "'")
				twice = append(twice, k)
			}
		}
		want, before, _ := impl.Hear12(once, 12, count)
		got, p, ok := impl.Hear12(twice, 12, count)
		before.Late = len(twice) - n
		if !ok || !slices.Equal(got, want) || !samePlayer(p, before) {
			t.Fatalf("%v, count %d: %d levels, %s, %v", twice, count, len(got), textOfPlayer(p), ok)
		}
	}
}

// P12: where nothing is there the levels of a hearing fall, never grow in size,
// and are 0 at the end of the first gap.
func TestHearingsFade(t *testing.T) {
	r := drawn(1207)
	for range 500 {
		n, count := 1+r.below(12), 1+r.below(60)
		levels, p, ok := impl.Hear12(storeFrom(r.below(4000), n), 1, count)
		if !ok || len(levels) != 30*(n+count) || p.Gaps != count || p.Last != 0 {
			t.Fatalf("%d packets, count %d: %d levels, %s, %v", n, count, len(levels), textOfPlayer(p), ok)
		}
		for i := 30 * n; i < len(levels); i++ {
			if sizeOf(levels[i]) > sizeOf(levels[i-1]) || levels[i]*levels[i-1] < 0 || i >= 30*n+29 && levels[i] != 0 {
				t.Fatalf("%v behind %d", levels, 30*n)
			}
		}
	}
}

// manyPackets are n right ones, whose Ticks rise where by is 1.
func manyPackets(n int, by int) []impl.Packet {
	var list []impl.Packet
	for i := range n {
		list = append(list, packetOf(fmt.Sprintf("%d@%d", 40+i, 500+by*i)))
	}
	return list
}

// P12, P21: one packet, MaxFrames and one more; none.
func TestHearingSizes(t *testing.T) {
	for n := 1; n <= 60; n++ {
		checkHeard12(t, manyPackets(n, 1), 1+n%12, n)
	}
	for _, n := range []int{61, 62, 120, 1000} {
		checkNotHeard(t, fmt.Sprint(n, " packets"), manyPackets(n, 1), 1, 0)
	}
	for _, none := range [][]impl.Packet{nil, {}} {
		checkNotHeard(t, "no packets", none, 1, 0)
		checkNotHeard(t, "no packets", none, 0, -1)
		checkNotHeard(t, "no packets, but a count", none, 12, 60)
	}
	levels, p, ok := checkHeard12(t, manyPackets(60, 0), 1, 60)
	if !ok || len(levels) != 3600 || p.Next != 160 || p.Gaps != 60 {
		t.Errorf("%d levels, %s, %v", len(levels), textOfPlayer(p), ok)
	}
}

// P12, P21: the ends of depth and of count.
func TestHearingEnds(t *testing.T) {
	for _, packets := range [][]impl.Packet{manyPackets(1, 0), manyPackets(12, 1), manyPackets(60, 1)} {
		for _, n := range endsAround(0, 1, 12, 60, 255) {
			if n >= 1 && n <= 12 {
				checkHeard12(t, packets, n, 0)
				checkHeard12(t, packets, n, 60)
			} else {
				checkNotHeard(t, fmt.Sprint("depth ", n), packets, n, 0)
				checkNotHeard(t, fmt.Sprint("depth ", n), packets, n, 60)
			}
			if n >= 0 && n <= 60 {
				checkHeard12(t, packets, 1, n)
				checkHeard12(t, packets, 12, n)
			} else {
				checkNotHeard(t, fmt.Sprint("count ", n), packets, 1, n)
				checkNotHeard(t, fmt.Sprint("count ", n), packets, 12, n)
			}
		}
	}
}

// P12: Ticks may stay alike, and not fall, wherever that is.
func TestHearingTicks(t *testing.T) {
	for _, n := range []int{2, 3, 12, 60} {
		checkHeard12(t, manyPackets(n, 0), 2, 3)
		checkHeard12(t, manyPackets(n, 1), 2, 3)
		checkHeard12(t, manyPackets(n, 1000000), 2, 3)
		checkNotHeard(t, "falling Ticks", manyPackets(n, -1), 2, 3)
		for at := 1; at < n; at++ {
			list := manyPackets(n, 0)
			for i := at; i < n; i++ {
				list[i].Tick++
			}
			checkHeard12(t, list, 2, 3)
			list[at-1].Tick += 2
			checkNotHeard(t, fmt.Sprint("a Tick that falls at ", at), list, 2, 3)
		}
	}
}

// P12, P21: packets that are none, at every place; their ends are taken.
func TestHearingOfWrongPackets(t *testing.T) {
	for _, n := range []int{1, 2, 5, 60} {
		for at := range n {
			for _, wrong := range wrongPackets() {
				list := manyPackets(n, 0)
				list[at] = wrong
				checkNotHeard(t, fmt.Sprint(wrong.Seq, " at ", wrong.Tick), list, 1, 0)
				for i := range list {
					list[i].Tick = wrong.Tick
				}
				checkNotHeard(t, fmt.Sprint(wrong.Seq, " at ", wrong.Tick, ", all alike"), list, 12, 0)
			}
			for _, seq := range []int{0, mostSeq} {
				list := manyPackets(n, 0)
				list[at].Seq = seq
				checkHeard12(t, list, 3, 0)
			}
		}
	}
	list := packetsOf("40@0 41@0 42@1000000000 43@1000000000")
	checkHeard12(t, list, 2, 4)
}

// P12, P21: at the last Seq nothing can be played, so all is false.
func TestHearingsAtTheEndOfSeqs(t *testing.T) {
	for n := 1; n <= 14; n++ {
		for before := range 30 {
			for depth := 1; depth <= 12; depth++ {
				for count := range 4 {
					packets := storeFrom(mostSeq-before, min(n, before+1))
					_, _, ok := checkHeard12(t, packets, depth, count)
					played := max(0, len(packets)-depth+1) + count
					if ok != (played <= before) {
						t.Errorf("%d packets, %d before the end, depth %d, count %d: %v", len(packets), before, depth, count, ok)
					}
				}
			}
		}
	}
	checkNotHeard(t, "a Play at the end", packetsOf("1000000@0"), 1, 0)
	checkNotHeard(t, "one more at the end", packetsOf("1000000@0"), 2, 1)
	checkNotHeard(t, "one more behind it", packetsOf("999999@0"), 1, 1)
	checkNotHeard(t, "the second is too much", packetsOf("999999@0 999999@1"), 1, 0)
}
