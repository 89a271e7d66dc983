package tests

import (
	"fmt"
	"maps"
	"slices"
	"testing"

	"loop.example/g00052/impl"
)

// wrongPackets are one past each end, and far off.
func wrongPackets() []impl.Packet {
	list := packetsOf("50@-1 50@1000000001 -1@0 1000001@0 -1@-1 1000001@1000000001")
	for _, n := range endsAround() {
		list = append(list, impl.Packet{Tick: n, Seq: 50}, impl.Packet{Seq: n}, impl.Packet{Tick: n, Seq: n})
	}
	return list
}

// secondPut keeps what waits in a map by its Seq.
func secondPut(p impl.Player, k impl.Packet) (impl.Player, bool) {
	if !playerIsRight(p) || !packetIsRight(k) || p.Late == 1000000000 {
		return p, false
	}
	waits := map[int]impl.Packet{}
	for seq := p.Next; seq < p.Next+12; seq++ {
		for _, one := range p.Store {
			if one.Seq == seq {
				waits[seq] = one
			}
		}
	}
	_, there := waits[k.Seq]
	if there || k.Seq < p.Next || k.Seq > p.Next+11 {
		p.Late++
		return p, true
	}
	waits[k.Seq] = k
	p.Store = nil
	for _, seq := range slices.Sorted(maps.Keys(waits)) {
		p.Store = append(p.Store, waits[seq])
	}
	return p, true
}

// checkPut wants what the second telling says, and answers it.
func checkPut(t *testing.T, p impl.Player, k impl.Packet) (impl.Player, bool) {
	t.Helper()
	want, wanted := secondPut(copyOfPlayer(p), k)
	got, ok := impl.Put(copyOfPlayer(p), k)
	if ok != wanted || !samePlayer(got, want) || wanted && !impl.PlayerOk(got) {
		t.Fatalf("Put(%s, %d@%d): %s, %v; not %s, %v", textOfPlayer(p), k.Seq, k.Tick, textOfPlayer(got), ok, textOfPlayer(want), wanted)
	}
	return got, ok
}

// P12: known Puts; where the last text is "", it is false and all stays.
func TestKnownPuts(t *testing.T) {
	for _, c := range []struct{ before, packet, after string }{
		{"0/1", "0@0", "0/1 0@0"},
		{"0/1", "11@5", "0/1 11@5"},
		{"0/1", "12@5", "0/1 late1"},
		{"50/1", "49@5", "50/1 late1"},
		{"50/1", "50@5", "50/1 50@5"},
		{"50/1", "51@5", "50/1 51@5"},
		{"50/1", "61@5", "50/1 61@5"},
		{"50/1", "62@5", "50/1 late1"},
		{"50/1", "0@5", "50/1 late1"},
		{"50/1", "1000000@5", "50/1 late1"},
		{"50/12", "61@5", "50/12 61@5"},
		{"50/12", "62@5", "50/12 late1"},
		{"50/2 late3 gaps4 last-9 55@7", "53@2", "50/2 late3 gaps4 last-9 53@2 55@7"},
		{"50/2 late3 gaps4 last-9 55@7", "57@2", "50/2 late3 gaps4 last-9 55@7 57@2"},
		{"50/2 late3 gaps4 last-9 55@7", "55@7", "50/2 late4 gaps4 last-9 55@7"},
		{"50/2 late3 gaps4 last-9 55@7", "55'@2", "50/2 late4 gaps4 last-9 55@7"},
		{"50/2 late3 gaps4 last-9 55!@7", "55@2", "50/2 late4 gaps4 last-9 55!@7"},
		{"50/2 52@1 56@2", "50@9", "50/2 50@9 52@1 56@2"},
		{"50/2 52@1 56@2", "51@9", "50/2 51@9 52@1 56@2"},
		{"50/2 52@1 56@2", "53@9", "50/2 52@1 53@9 56@2"},
		{"50/2 52@1 56@2", "55!@0", "50/2 52@1 55!@0 56@2"},
		{"50/2 52@1 56@2", "57@9", "50/2 52@1 56@2 57@9"},
		{"50/2 52@1 56@2", "52'@9", "50/2 late1 52@1 56@2"},
		{"50/2 52@1 56@2", "56'@9", "50/2 late1 52@1 56@2"},
		{"50/2 50@1 61@2", "49@9", "50/2 late1 50@1 61@2"},
		{"50/2 50@1 61@2", "62@9", "50/2 late1 50@1 61@2"},
		{"50/2 50@1", "50@1000000000", "50/2 late1 50@1"},
		{"50/2", "50@1000000000", "50/2 50@1000000000"},
		{"50/2 late999999999", "50@0", "50/2 late999999999 50@0"},
		{"50/2 late999999999", "49@0", "50/2 late1000000000"},
		{"50/2 late999999999", "62@0", "50/2 late1000000000"},
		{"50/2 late999999999 50@0", "50@0", "50/2 late1000000000 50@0"},
		{"50/2 late1000000000", "50@0", ""},
		{"50/2 late1000000000", "49@0", ""},
		{"50/2 late1000000000", "62@0", ""},
		{"50/2 late1000000000 50@0", "50@0", ""},
		{"50/2 gaps1000000000", "50@0", "50/2 gaps1000000000 50@0"},
		{"50/2 gaps1000000000", "49@0", "50/2 late1 gaps1000000000"},
		{"999989/1", "1000000@0", "999989/1 1000000@0"},
		{"999988/1", "1000000@0", "999988/1 late1"},
		{"999999/1", "1000000@0", "999999/1 1000000@0"},
		{"1000000/1", "1000000@0", "1000000/1 1000000@0"},
		{"1000000/1", "999999@0", "1000000/1 late1"},
		{"1000000/1 1000000@0", "1000000@0", "1000000/1 late1 1000000@0"},
		{"1000000/1", "1000001@0", ""},
		{"999995/1", "1000001@0", ""},
		{"0/1", "-1@0", ""},
		{"50/1 51@0", "50@-1", ""},
		{"50/1 51@0", "50@1000000001", ""},
		{"50/1 51@0", "49@-1", ""},
		{"50/1 51@0", "1000001@0", ""},
		{"50/0", "50@0", ""},
		{"50/1 49@0", "50@0", ""},
	} {
		want, wanted := playerOf(c.before), c.after != ""
		if wanted {
			want = playerOf(c.after)
		}
		if got, ok := impl.Put(playerOf(c.before), packetOf(c.packet)); ok != wanted || !samePlayer(got, want) {
			t.Errorf("Put(%s, %s): %s, %v", c.before, c.packet, textOfPlayer(got), ok)
		}
		checkPut(t, playerOf(c.before), packetOf(c.packet))
	}
}

// P12: every Seq from below Next to past the last, at players of several kinds.
func TestPutOfEverySeq(t *testing.T) {
	for _, p := range rightPlayers() {
		for seq := p.Next - 15; seq <= p.Next+15; seq++ {
			for _, tick := range []int{0, 5, impl.MaxTick} {
				checkPut(t, p, impl.Packet{Tick: tick, Seq: seq, Frame: frameNo(seq, "'")})
			}
		}
	}
}

// P12: a full Store takes nothing more: whatever comes is there already, or too
// early or too late.
func TestPutIntoFullStore(t *testing.T) {
	p := impl.Player{Next: 20, Depth: 12, Store: storeFrom(20, 12)}
	for seq := 0; seq < 60; seq++ {
		got, ok := checkPut(t, p, packetOf(fmt.Sprintf("%d'@3", seq)))
		if !ok || got.Late != 1 || !slices.Equal(got.Store, p.Store) {
			t.Errorf("%d: %s, %v", seq, textOfPlayer(got), ok)
		}
	}
}

// P12: a player that is not PlayerOk stays as it was, whatever comes.
func TestPutToWrongPlayers(t *testing.T) {
	for why, p := range wrongPlayers() {
		for _, k := range append(packetsOf("50@0 0@0 100@5 101@5 111@9 5@5 999995@0 1000000@0"), wrongPackets()...) {
			if got, ok := impl.Put(copyOfPlayer(p), k); ok || !samePlayer(got, p) {
				t.Errorf("%s, %d@%d: %s, %v", why, k.Seq, k.Tick, textOfPlayer(got), ok)
			}
		}
	}
}

// P12, P21: a packet that is none changes nothing, its Tick and Seq at their
// ends are taken.
func TestPutOfWrongPackets(t *testing.T) {
	for why, p := range rightPlayers() {
		for _, k := range wrongPackets() {
			if got, ok := impl.Put(copyOfPlayer(p), k); ok || !samePlayer(got, p) {
				t.Errorf("%s, %d@%d: %s, %v", why, k.Seq, k.Tick, textOfPlayer(got), ok)
			}
		}
	}
	for _, tick := range endsAround(0, impl.MaxTick) {
		if _, ok := impl.Put(playerOf("50/1"), impl.Packet{Tick: tick, Seq: 50}); ok != (tick >= 0 && tick <= impl.MaxTick) {
			t.Errorf("Tick %d: %v", tick, ok)
		}
	}
	for _, seq := range endsAround(0, mostSeq) {
		for _, next := range []int{0, 50, mostSeq - 3, mostSeq} {
			if _, ok := impl.Put(impl.Player{Next: next, Depth: 1}, impl.Packet{Seq: seq}); ok != (seq >= 0 && seq <= mostSeq) {
				t.Errorf("Seq %d at %d: %v", seq, next, ok)
			}
		}
	}
}

// everyOrder visits the list in each of its orders.
func everyOrder[T any](list []T, visit func(list []T)) {
	var turn func(at int)
	turn = func(at int) {
		if at == len(list) {
			visit(list)
			return
		}
		for i := at; i < len(list); i++ {
			list[at], list[i] = list[i], list[at]
			turn(at + 1)
			list[at], list[i] = list[i], list[at]
		}
	}
	turn(0)
}

// P12: whatever order packets come in, the Store is the same.
func TestPutsInEveryOrder(t *testing.T) {
	want := playerOf("50/3 last77 50@9 52@1 53@1 57@0 60!@4 61@9")
	everyOrder(slices.Clone(want.Store), func(list []impl.Packet) {
		p := playerOf("50/3 last77")
		for _, k := range list {
			p, _ = impl.Put(p, k)
		}
		if !samePlayer(p, want) {
			t.Fatalf("%v: %s", list, textOfPlayer(p))
		}
	})
}

// P12: packets that come twice stand there once, the first of them, and are
// counted.
func TestPutsTwice(t *testing.T) {
	r := drawn(1201)
	for range 3000 {
		p := impl.Player{Next: r.below(100), Depth: 1 + r.below(12)}
		once := p
		seen := map[int]bool{}
		for range r.below(40) {
			k := impl.Packet{Tick: r.below(900), Seq: p.Next + r.below(12)}
			k.Frame = frameNo(k.Tick, "")
			p, _ = impl.Put(p, k)
			if !seen[k.Seq] {
				once, _ = impl.Put(once, k)
			} else {
				once.Late++
			}
			seen[k.Seq] = true
		}
		if !samePlayer(p, once) || len(p.Store) != len(seen) {
			t.Fatalf("%s, not %s", textOfPlayer(p), textOfPlayer(once))
		}
	}
}
