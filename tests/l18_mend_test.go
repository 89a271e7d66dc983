package tests

import (
	"slices"
	"testing"

	"loop.example/g00052/impl"
)

func checkMend(t *testing.T, b, want impl.Book, wantGone []int) {
	t.Helper()
	if got, gone := impl.MendBook(b); !sameBook(got, want) || !slices.Equal(gone, wantGone) {
		t.Errorf("%s is mended to %s, without %d, not to %s, without %d", textOfBook(b), textOfBook(got), gone, textOfBook(want), wantGone)
	}
}

func areApart(a, b impl.Talk) bool {
	return a.A != b.A && a.A != b.B && a.B != b.A && a.B != b.B && (a.Circuit != b.Circuit || a.Circuit == -1)
}

// mendByHeads lets the first talk that is left stay, throws out all behind it
// that share something with it, and goes on with the rest.
func mendByHeads(b impl.Book) (impl.Book, []int) {
	var left, stays, gone []int
	for place, talk := range b.Talks {
		if talk.A == talk.B {
			gone = append(gone, place)
		} else {
			left = append(left, place)
		}
	}
	for len(left) > 0 {
		head := left[0]
		stays = append(stays, head)
		var rest []int
		for _, place := range left[1:] {
			if areApart(b.Talks[head], b.Talks[place]) {
				rest = append(rest, place)
			} else {
				gone = append(gone, place)
			}
		}
		left = rest
	}
	slices.Sort(gone)
	var talks []impl.Talk
	for _, place := range stays {
		talks = append(talks, b.Talks[place])
	}
	return bookBy(talks, len(b.Lines), len(b.Circuits)), gone
}

// P18: known books, and what they are mended to.
func TestKnownMends(t *testing.T) {
	for _, c := range []struct{ book, want, gone string }{
		{"| |", "| |", ""},
		{"| . . | .", "| . . | .", ""},
		// Nobody has them: they are free.
		{"| 0 30 . | 5 .", "| . . . | . .", ""},
		// Without faults all stays.
		{"0+1/0 2+3 | 0 0 1 1 . | 0 . .", "0+1/0 2+3 | 0 0 1 1 . | 0 . .", ""},
		{"4+1/2 2+3/0 0+5 | 2 0 1 1 0 2 | 1 . 0", "4+1/2 2+3/0 0+5 | 2 0 1 1 0 2 | 1 . 0", ""},
		// Lines and Circuits are off, the talks are not.
		{"0+1/0 2+3 | 1 . 30 1 4 | . 0 .", "0+1/0 2+3 | 0 0 1 1 . | 0 . .", ""},
		{"0+1/1 2+3/0 | 1 1 0 0 | 0 1", "0+1/1 2+3/0 | 0 0 1 1 | 1 0", ""},
		// A talk with itself.
		{"0+0 | 0 |", "| . |", "0"},
		{"0+0/0 | 0 | 0", "| . | .", "0"},
		{"0+1 2+2/0 3+4 | 0 0 1 2 2 | 1", "0+1 3+4 | 0 0 . 1 1 | .", "1"},
		// What it had is free for those behind it.
		{"0+0/0 0+1/0 | 0 1 | 0", "0+1/0 | 0 0 | 0", "0"},
		{"0+0 0+0 0+1 | 0 2 |", "0+1 | 0 0 |", "0 1"},
		{"0+1 0+0 0+2 | 0 0 2 |", "0+1 | 0 0 . |", "1 2"},
		// Shares with one that stays: a line, a circuit, both; not the circuit -1.
		{"0+1 1+2 | 0 0 1 |", "0+1 | 0 0 . |", "1"},
		{"0+1 2+0 | 0 0 1 |", "0+1 | 0 0 . |", "1"},
		{"0+1/0 2+3/0 | 0 0 1 1 | 0", "0+1/0 | 0 0 . . | 0", "1"},
		{"0+1/0 1+0/0 | 0 0 | 0", "0+1/0 | 0 0 | 0", "1"},
		{"0+1 2+3 4+5 | 0 0 1 1 2 2 | .", "0+1 2+3 4+5 | 0 0 1 1 2 2 | .", ""},
		// The later ones have another place then.
		{"0+1/0 1+2/1 3+4/2 | 0 0 1 2 2 | 0 1 2", "0+1/0 3+4/2 | 0 0 . 1 1 | 0 . 1", "1"},
		{"2+2 0+1/0 0+3/1 4+5/1 | 1 1 0 2 3 3 | 1 2", "0+1/0 4+5/1 | 0 0 . . 1 1 | 0 1", "0 2"},
		// Shares with one that is gone: a line, or a circuit, is free again.
		{"0+1 1+2 2+3 | 0 0 1 2 |", "0+1 2+3 | 0 0 1 1 |", "1"},
		{"0+1 1+2/0 3+4/0 | 0 0 1 2 2 | 1", "0+1 3+4/0 | 0 0 . 1 1 | 1", "1"},
		{"0+1/0 2+3/0 3+4/1 | 0 0 1 1 2 | 0 2", "0+1/0 3+4/1 | 0 0 . 1 1 | 0 1", "1"},
		{"0+1 1+2 2+3 3+4 4+5 5+0 | 0 0 1 2 3 4 |", "0+1 2+3 4+5 | 0 0 1 1 2 2 |", "1 3 5"},
		// Shares with one that is gone and with one that stays.
		{"0+1 1+2 2+0 2+3 | 0 0 1 3 |", "0+1 2+3 | 0 0 1 1 |", "1 2"},
		{"0+1/0 1+2/1 2+3/0 2+3/1 | 0 0 1 2 | 0 1", "0+1/0 2+3/1 | 0 0 1 1 | 0 1", "1 2"},
		{"0+0/0 0+1/0 2+3/0 2+3 | 0 1 2 2 | 0", "0+1/0 2+3 | 0 0 1 1 | 0", "0 2"},
		// The book of the given test.
		{"0+1/0 2+2 1+3 4+5/1 | 0 2 . 2 3 . 0 | 0 . 3", "0+1/0 4+5/1 | 0 0 . . 1 1 . | 0 1 .", "1 2"},
	} {
		b, want, gone := bookOf(c.book), bookOf(c.want), numbersOf(c.gone)
		checkMend(t, b, want, gone)
		if told, places := mendByHeads(b); !sameBook(told, want) || !slices.Equal(places, gone) {
			t.Errorf("the second telling of %s is wrong: %s, %d", c.book, textOfBook(told), places)
		}
	}
}

// checkMended: what was mended has no faults and is mended to itself, and what is
// gone and what stays are all of it.
func checkMended(t *testing.T, b impl.Book) []int {
	t.Helper()
	mended, gone := impl.MendBook(b)
	checkFaults(t, mended, nil)
	checkMend(t, mended, mended, nil)
	var stays []impl.Talk
	for place, talk := range b.Talks {
		if !slices.Contains(gone, place) {
			stays = append(stays, talk)
		}
	}
	if !slices.Equal(stays, mended.Talks) || len(gone)+len(stays) != len(b.Talks) || !slices.IsSorted(gone) {
		t.Errorf("%s is mended to %s, without %d", textOfBook(b), textOfBook(mended), gone)
	}
	if len(mended.Lines) != len(b.Lines) || len(mended.Circuits) != len(b.Circuits) {
		t.Errorf("%s is mended to another size: %s", textOfBook(b), textOfBook(mended))
	}
	if len(impl.Faults(b)) == 0 && (!sameBook(mended, b) || len(gone) != 0) {
		t.Errorf("%s has no faults, and is mended to %s, without %d", textOfBook(b), textOfBook(mended), gone)
	}
	return gone
}

// P18: drawn books of all sizes.
func TestDrawnMends(t *testing.T) {
	r := drawn(1802)
	counts := map[int]int{}
	for range 20000 {
		counts[len(checkMended(t, drawBook(&r, r.below(31), r.below(2)*r.below(20))))]++
	}
	for _, n := range []int{0, 1, 5, 15, 25} {
		if counts[n] < 100 {
			t.Error("too few with so many gone", n, counts)
		}
	}
}

// P18: all few talks.
func TestAllSmallMends(t *testing.T) {
	for n := range 4 {
		everyTalks(n, 3, 2, func(talks []impl.Talk) { checkMended(t, bookBy(talks, 3, 2)) })
	}
}

// P18: of all orders of few talks, those stay that stand first.
func TestMendsOfAllOrders(t *testing.T) {
	everyOrder(talksOf("0+1 1+2/0 2+3 3+4/0 4+4 5+0/1"), func(talks []impl.Talk) {
		b := bookBy(talks, 6, 2)
		checkMended(t, b)
		mended, gone := mendByHeads(b)
		checkMend(t, b, mended, gone)
	})
}

// P18, P21: MaxBook talks of which one, none or half of them stay, and a chain of
// which each second one does.
func TestMendsOfGreatBooks(t *testing.T) {
	all := make([]int, 30)
	for i := range all {
		all[i] = i
	}
	b := bookBy(slices.Repeat(talksOf("29+0/29"), 30), 30, 30)
	checkMend(t, b, bookBy(talksOf("29+0/29"), 30, 30), all[1:])
	b = bookBy(slices.Repeat(talksOf("29+29/29"), 30), 30, 30)
	checkMend(t, b, bookBy(nil, 30, 30), all)
	checkMend(t, greatBook(), bookBy(greatBook().Talks[:15], 30, 30), all[15:])
	// Each shares with its neighbours alone.
	var chain, stay []impl.Talk
	var gone []int
	for i := range 29 {
		chain = append(chain, impl.Talk{A: i, B: i + 1, Circuit: -1})
		if i%2 == 0 {
			stay = append(stay, chain[i])
		} else {
			gone = append(gone, i)
		}
	}
	checkMend(t, bookBy(chain, 30, 0), bookBy(stay, 30, 0), gone)
}

// P18: what Lines and Circuits say plays no part in which talks stay.
func TestMendsHangOnTalksAlone(t *testing.T) {
	r := drawn(1803)
	for range 500 {
		b := drawBook(&r, r.below(31), 0)
		want, gone := impl.MendBook(b)
		for range 5 {
			for i := range b.Lines {
				b.Lines[i] = r.below(32) - 1
			}
			for i := range b.Circuits {
				b.Circuits[i] = r.below(32) - 1
			}
			checkMend(t, b, want, gone)
		}
	}
}
