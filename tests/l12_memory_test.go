package tests

import (
	"fmt"
	"maps"
	"slices"
	"sync"
	"testing"

	"loop.example/g00052/impl"
)

// sparePacket lies behind a list: were it read, it would be the next one.
var sparePacket = impl.Packet{Tick: 1000, Seq: 112, Frame: waveFrame}

// strangePacket is written over what a list reaches.
var strangePacket = impl.Packet{Tick: -3, Seq: -4}

// memoryPlayers are right and wrong ones, sorted by why.
func memoryPlayers() []impl.Player {
	var list []impl.Player
	for _, players := range []map[string]impl.Player{rightPlayers(), wrongPlayers()} {
		for _, why := range slices.Sorted(maps.Keys(players)) {
			list = append(list, players[why])
		}
	}
	return list
}

// playerCalls are all calls that are given a player, by their names; what they
// answer beside one, levels told as text.
func playerCalls() map[string]func(p impl.Player) (impl.Player, string) {
	calls := map[string]func(p impl.Player) (impl.Player, string){
		"PlayerOk": func(p impl.Player) (impl.Player, string) { return impl.Player{}, fmt.Sprint(impl.PlayerOk(p)) },
		"Ready":    func(p impl.Player) (impl.Player, string) { return impl.Player{}, fmt.Sprint(impl.Ready(p)) },
		"Play": func(p impl.Player) (impl.Player, string) {
			after, levels, ok := impl.Play(p)
			return after, fmt.Sprint(levels, ok)
		},
	}
	for _, k := range packetsOf("100@0 102@3 105'@3 110@3 111@0 112@0 99@0 50@0 51@7 5@5 1000000@0 -1@0 50@-1") {
		calls[fmt.Sprintf("Put of %d@%d", k.Seq, k.Tick)] = func(p impl.Player) (impl.Player, string) {
			after, ok := impl.Put(p, k)
			return after, fmt.Sprint(ok)
		}
	}
	return calls
}

// guardStore has spare room behind the Store of a player.
func guardStore(p impl.Player) (impl.Player, guarded[impl.Packet]) {
	g := guard(sparePacket, p.Store)
	p.Store = g.list
	return p, g
}

// P12: nothing is written into a player or behind it, nothing there is read, and
// no answer shares memory with one.
func TestPlayerMemory(t *testing.T) {
	for name, call := range playerCalls() {
		for _, p := range memoryPlayers() {
			want, told := call(copyOfPlayer(p))
			want = copyOfPlayer(want)
			guardedPlayer, g := guardStore(p)
			got, text := call(guardedPlayer)
			if !g.untouched() || !samePlayer(got, want) || text != told {
				t.Errorf("%s of %s: written into, or another answer: %s, %s", name, textOfPlayer(p), textOfPlayer(got), text)
			}
			scribble(g.whole, strangePacket)
			if !samePlayer(got, want) {
				t.Errorf("%s of %s: its answer changed with the argument", name, textOfPlayer(p))
			}
			guardedPlayer, g = guardStore(p)
			got, _ = call(guardedPlayer)
			scribble(got.Store, strangePacket)
			if !g.untouched() {
				t.Errorf("%s of %s shares its Store", name, textOfPlayer(p))
			}
			if again, text := call(guardedPlayer); !samePlayer(again, want) || text != told {
				t.Errorf("%s of %s: another answer the next time", name, textOfPlayer(p))
			}
		}
	}
}

// P12: the answers of two calls with one player stand apart, Stores and levels.
func TestPlayerAnswersStandApart(t *testing.T) {
	for _, p := range memoryPlayers() {
		for name, call := range playerCalls() {
			first, _ := call(p)
			second, _ := call(p)
			want := copyOfPlayer(second)
			scribble(first.Store, strangePacket)
			if !samePlayer(second, want) {
				t.Errorf("%s of %s: two answers share", name, textOfPlayer(p))
			}
		}
		_, first, _ := impl.Play(p)
		_, second, _ := impl.Play(p)
		want := slices.Clone(second)
		scribble(first, 4321)
		if !slices.Equal(second, want) {
			t.Errorf("Play of %s: two answers share their levels", textOfPlayer(p))
		}
	}
}

// P12: the same where one answer is handed on: the player ahead of it stays.
func TestPlayersHandedOn(t *testing.T) {
	r := drawn(1209)
	for range 300 {
		p := impl.Player{Next: 100, Depth: 3}
		var before, copies []impl.Player
		for range 40 {
			before, copies = append(before, p), append(copies, copyOfPlayer(p))
			if r.below(3) == 0 {
				p, _, _ = impl.Play(p)
			} else {
				p, _ = impl.Put(p, impl.Packet{Seq: p.Next + r.below(13), Frame: frameNo(r.below(99), "")})
			}
		}
		for i := range before {
			if !samePlayer(before[i], copies[i]) {
				t.Fatalf("player %d changed: %s, not %s", i, textOfPlayer(before[i]), textOfPlayer(copies[i]))
			}
		}
	}
}

// memoryPackets are right and wrong lists.
func memoryPackets() [][]impl.Packet {
	return [][]impl.Packet{
		nil,
		packetsOf("111@0"),
		packetsOf("110@0 111@30"),
		packetsOf("4@0 6@31 5@40 7@95"),
		packetsOf("4@0 4'@0 16@9 3@9 5!@9 6@9"),
		packetsOf("4@9 5@8"),
		packetsOf("4@9 5@-1"),
		packetsOf("999998@0 999999@0 1000000@0"),
		manyPackets(12, 1),
		manyPackets(59, 1),
		manyPackets(60, 1),
		manyPackets(61, 1),
	}
}

// tellHearing is what a hearing answers, as text.
func tellHearing(packets []impl.Packet, depth int, count int) string {
	levels, p, ok := impl.Hear12(packets, depth, count)
	spread, again := impl.Steady(packets)
	return fmt.Sprint(levels, p, ok, spread, again)
}

// P12: nothing is written into packets or behind them, and nothing there is
// read.
func TestPacketsMemory(t *testing.T) {
	for _, packets := range memoryPackets() {
		for depth := range 5 {
			for count := range 4 {
				want := tellHearing(slices.Clip(slices.Clone(packets)), depth, count)
				for _, mark := range []impl.Packet{sparePacket, strangePacket, {}} {
					g := guard(mark, packets)
					if got := tellHearing(g.list, depth, count); got != want || !g.untouched() {
						t.Errorf("%v, depth %d, count %d: %s, not %s", packets, depth, count, got, want)
					}
				}
			}
		}
	}
}

// P12: what a hearing answers stands apart from its packets, and from what
// another one answers.
func TestHearingAnswersStandApart(t *testing.T) {
	for _, packets := range memoryPackets() {
		for depth := 1; depth <= 12; depth++ {
			g := guard(sparePacket, packets)
			levels, p, _ := impl.Hear12(g.list, depth, 1)
			other, q, _ := impl.Hear12(g.list, depth, 1)
			want, wanted := slices.Clone(other), copyOfPlayer(q)
			scribble(levels, 4321)
			scribble(p.Store, strangePacket)
			if !g.untouched() || !slices.Equal(other, want) || !samePlayer(q, wanted) {
				t.Errorf("%v, depth %d: its answer is shared", packets, depth)
			}
			scribble(g.whole, strangePacket)
			if !slices.Equal(other, want) || !samePlayer(q, wanted) {
				t.Errorf("%v, depth %d: its answer changed with the argument", packets, depth)
			}
		}
	}
}

// P12: no call plays a part in what another one answers, nor do several at once.
func TestJitterKeepsNothing(t *testing.T) {
	lists := memoryPackets()
	var want []string
	for _, packets := range lists {
		want = append(want, tellHearing(packets, 2, 3))
	}
	for i, packets := range lists {
		for _, other := range lists {
			tellHearing(other, 3, 60)
			tellHearing(other, 0, -1)
			if got := tellHearing(packets, 2, 3); got != want[i] {
				t.Fatalf("%v behind %v: %s, not %s", packets, other, got, want[i])
			}
		}
	}
	var all sync.WaitGroup
	got := make([][]string, 6)
	for one := range got {
		all.Go(func() {
			for _, packets := range lists {
				got[one] = append(got[one], tellHearing(packets, 2, 3))
			}
		})
	}
	all.Wait()
	for _, told := range got {
		if !slices.Equal(told, want) {
			t.Error("several at once are answered otherwise")
		}
	}
}
