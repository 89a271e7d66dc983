package tests

import (
	"math"
	"slices"
	"testing"

	"loop.example/g00052/impl"
)

func checkTalkAdded(t *testing.T, b impl.Book, talk impl.Talk, want impl.Book) {
	t.Helper()
	if got, ok := impl.Add18(b, talk); !ok || !sameBook(got, want) {
		t.Errorf("%s with %s: %s and %t, not %s", textOfBook(b), textOfTalk(talk), textOfBook(got), ok, textOfBook(want))
	}
}

func checkTalkRefused(t *testing.T, b impl.Book, talk impl.Talk) {
	t.Helper()
	if got, ok := impl.Add18(b, talk); ok || !sameBook(got, b) {
		t.Errorf("%s with %s: %s and %t", textOfBook(b), textOfTalk(talk), textOfBook(got), ok)
	}
}

// checkSecondAdd puts the talk behind the others, has Lines and Circuits written
// anew, and looks whether there were or are faults then.
func checkSecondAdd(t *testing.T, b impl.Book, talk impl.Talk) bool {
	t.Helper()
	more := copyOfBook(b)
	more.Talks = append(more.Talks, talk)
	if !readableByEnds(b) || len(faultsByHolders(b)) > 0 || !readableByEnds(more) {
		checkTalkRefused(t, b, talk)
		return false
	}
	want := bookBy(more.Talks, len(b.Lines), len(b.Circuits))
	if len(faultsByHolders(want)) > 0 {
		checkTalkRefused(t, b, talk)
		return false
	}
	checkTalkAdded(t, b, talk, want)
	return true
}

// P18: known talks that are added.
func TestKnownAdds(t *testing.T) {
	for _, c := range []struct{ book, talk, want string }{
		{"| . . |", "0+1", "0+1 | 0 0 |"},
		{"| . . |", "1+0", "1+0 | 0 0 |"},
		{"| . . | .", "1+0", "1+0 | 0 0 | ."},
		{"| . . | .", "0+1/0", "0+1/0 | 0 0 | 0"},
		{"| . . . | . . .", "2+0/1", "2+0/1 | 0 . 0 | . 0 ."},
		{"0+1 | 0 0 . . |", "2+3", "0+1 2+3 | 0 0 1 1 |"},
		{"0+1 | 0 0 . . | . .", "3+2/1", "0+1 3+2/1 | 0 0 1 1 | . 1"},
		{"0+1/0 | 0 0 . . | 0 .", "2+3", "0+1/0 2+3 | 0 0 1 1 | 0 ."},
		{"0+1/0 | 0 0 . . | 0 .", "2+3/1", "0+1/0 2+3/1 | 0 0 1 1 | 0 1"},
		{"4+1/2 2+3/0 | . 0 1 1 0 . | 1 . 0", "0+5", "4+1/2 2+3/0 0+5 | 2 0 1 1 0 2 | 1 . 0"},
		{"4+1/2 2+3/0 | . 0 1 1 0 . | 1 . 0", "5+0/1", "4+1/2 2+3/0 5+0/1 | 2 0 1 1 0 2 | 1 2 0"},
	} {
		b, talk := bookOf(c.book), talkOf(c.talk)
		checkTalkAdded(t, b, talk, bookOf(c.want))
		if !checkSecondAdd(t, b, talk) {
			t.Errorf("the second telling of %v is wrong", c)
		}
	}
}

// P18: known talks that are not added.
func TestKnownRefusals(t *testing.T) {
	for _, c := range []struct{ book, talk string }{
		// A line is not free: A, B, both.
		{"0+1 | 0 0 . . |", "0+2"},
		{"0+1 | 0 0 . . |", "1+2"},
		{"0+1 | 0 0 . . |", "2+0"},
		{"0+1 | 0 0 . . |", "3+1"},
		{"0+1 | 0 0 . . |", "0+1"},
		{"0+1 | 0 0 . . |", "1+0"},
		// The circuit is not free, alone or with a line.
		{"0+1/0 | 0 0 . . | 0 .", "2+3/0"},
		{"0+1/0 | 0 0 . . | 0 .", "0+3/0"},
		{"0+1/0 | 0 0 . . | 0 .", "0+3/1"},
		{"2+3/1 0+1/0 | 1 1 0 0 . . | 1 0 .", "4+5/1"},
		// Lines and circuits that the book does not have.
		{"| |", "0+0"},
		{"| |", "0+1"},
		{"| |", "-1+-1"},
		{"| . . |", "0+2"},
		{"| . . |", "2+0"},
		{"| . . |", "-1+0"},
		{"| . . |", "0+-1"},
		{"| . . |", "0+1/0"},
		{"| . . | . .", "0+1/2"},
		{"| . . | . .", "0+1/-2"},
		{"| . . |", "0+1/-2"},
		// A talk with itself.
		{"| . . |", "0+0"},
		{"| . . | .", "1+1/0"},
		{"0+1 | 0 0 . . |", "2+2"},
		{"0+1 | 0 0 . . |", "1+1"},
		// A book with a fault of each kind, its lines and the circuit being free.
		{"0+1 1+2 | 0 0 1 . . | .", "3+4"},
		{"0+1/0 2+5/0 | 0 0 1 . . 1 | 0", "3+4"},
		{"0+0 | 0 . . . . | .", "3+4"},
		{"0+1 | 0 . . . . | .", "3+4/0"},
		{"0+1 | 0 30 . . . | .", "3+4/0"},
		{"| . . 0 . . | .", "3+4/0"},
		{"0+1/0 | 0 0 . . . | . .", "3+4/1"},
		{"0+1/0 | 0 0 . . . | 1 .", "3+4/1"},
		{"| . . . . . | . 0", "3+4/0"},
		// It is free by Lines, or by Circuits, but a talk has it.
		{"0+1 | 0 . . |", "1+2"},
		{"0+1/0 | 0 0 . . | .", "2+3/0"},
		// A book that may not be read.
		{"| . . 31 |", "0+1"},
		{"| . . | -2", "0+1"},
		{"0+2 | . . |", "0+1"},
		{"0+2 | . . |", "0+2"},
	} {
		b, talk := bookOf(c.book), talkOf(c.talk)
		checkTalkRefused(t, b, talk)
		if checkSecondAdd(t, b, talk) {
			t.Errorf("the second telling of %v is wrong", c)
		}
	}
}

// P18, P21: every talk, and numbers past those of the book by one, to books with
// and without faults.
func TestAllAdds(t *testing.T) {
	told := map[bool]int{}
	for _, text := range []string{
		"| |", "| . |", "| . . |", "| . . | .", "| . . . | . .", "0+1 | 0 0 . . | .", "3+1/1 | . 0 . 0 . | . 0 .",
		"0+1/0 2+3/1 | 0 0 1 1 | 0 1", "0+1/0 2+3/1 | 0 0 1 1 . . | 0 1 .", "0+1/0 2+3 4+5/1 | 0 0 1 1 2 2 . . | 0 2 .",
		"0+1 1+2 | 0 0 1 . . | .", "0+0 | 0 . . | .", "| . . 0 . | .", "0+1 | . 0 . . | .", "| . . . | . 0", "0+1/0 | 0 0 . . | .",
	} {
		b := bookOf(text)
		for a := -2; a < len(b.Lines)+2; a++ {
			for other := -2; other < len(b.Lines)+2; other++ {
				for circuit := -3; circuit < len(b.Circuits)+2; circuit++ {
					told[checkSecondAdd(t, b, impl.Talk{A: a, B: other, Circuit: circuit})]++
				}
			}
		}
	}
	if told[true] < 50 || told[false] < 500 {
		t.Error("too few of a kind", told)
	}
}

// P18: far numbers are no lines and no circuits.
func TestAddOfFarNumbers(t *testing.T) {
	b := bookOf("0+1/0 | 0 0 . . . | 0 . .")
	for _, wrong := range append(outside(0, 4), math.MinInt, math.MaxInt) {
		checkTalkRefused(t, b, impl.Talk{A: wrong, B: 2, Circuit: -1})
		checkTalkRefused(t, b, impl.Talk{A: 2, B: wrong, Circuit: -1})
		checkTalkRefused(t, b, impl.Talk{A: wrong, B: wrong, Circuit: 1})
	}
	for _, wrong := range append(outside(-1, 2), math.MinInt, math.MaxInt) {
		checkTalkRefused(t, b, impl.Talk{A: 2, B: 3, Circuit: wrong})
		checkTalkRefused(t, b, impl.Talk{A: wrong, B: wrong, Circuit: wrong})
	}
}

// P18, P21: the last line and the last circuit of the greatest book, and the one
// behind them.
func TestAddAtTheEnds(t *testing.T) {
	for _, n := range []int{2, 3, 29, 30} {
		b := bookBy(nil, n, n)
		for _, talk := range []impl.Talk{{A: 0, B: n - 1, Circuit: n - 1}, {A: n - 1, B: 0, Circuit: 0}, {A: n - 1, B: n - 2, Circuit: -1}} {
			checkTalkAdded(t, b, talk, bookBy([]impl.Talk{talk}, n, n))
		}
		for _, talk := range []impl.Talk{{A: 0, B: n, Circuit: 0}, {A: n, B: 0, Circuit: 0}, {A: 0, B: 1, Circuit: n}, {A: -1, B: 1}, {A: 0, B: -1}, {A: 0, B: 1, Circuit: -2}} {
			checkTalkRefused(t, b, talk)
		}
	}
}

// P18, P21: a book without faults is filled up to the last line; then there is
// none left for one talk more. No book of MaxBook talks is without faults.
func TestFillABook(t *testing.T) {
	for _, circuits := range []int{0, 7, 15, 30} {
		b := bookBy(nil, 30, circuits)
		for i := range 15 {
			talk := impl.Talk{A: 29 - i, B: i, Circuit: i}
			if i >= circuits {
				talk.Circuit = -1
			}
			want := bookBy(append(slices.Clone(b.Talks), talk), 30, circuits)
			checkTalkAdded(t, b, talk, want)
			b, _ = impl.Add18(b, talk)
			checkFaults(t, b, nil)
			checkMended(t, b)
		}
		for a := range 31 {
			for other := range 31 {
				checkTalkRefused(t, b, impl.Talk{A: a, B: other, Circuit: -1})
				checkTalkRefused(t, b, impl.Talk{A: a, B: other, Circuit: circuits - 1})
			}
		}
	}
	for _, n := range []int{16, 28, 29, 30} {
		b := bookBy(slices.Repeat(talksOf("2+3"), n), 30, 30)
		for _, talk := range talksOf("0+1 0+1/0 28+29/29 2+3") {
			checkTalkRefused(t, b, talk)
		}
		checkTalkRefused(t, bookBy(greatBook().Talks[:n], 30, 30), talkOf("0+1"))
	}
}

// P18: drawn talks, one after the other: each that is added stands in the book,
// behind the others, and the book stays without faults.
func TestDrawnAdds(t *testing.T) {
	r := drawn(1804)
	told := map[bool]int{}
	for range 1500 {
		lines, circuits := 1+r.below(30), r.below(31)
		b := bookBy(nil, lines, circuits)
		for range 40 {
			talk := impl.Talk{A: r.below(lines+2) - 1, B: r.below(lines+2) - 1, Circuit: r.below(circuits+3) - 2}
			if r.below(2) == 0 {
				talk = drawTalk(&r, lines, circuits)
			}
			added := checkSecondAdd(t, b, talk)
			told[added]++
			next, _ := impl.Add18(b, talk)
			if added {
				checkStands(t, next, talk, len(b.Talks))
			}
			b = next
		}
	}
	if told[true] < 3000 || told[false] < 3000 {
		t.Error("too few of a kind", told)
	}
}

func checkStands(t *testing.T, b impl.Book, talk impl.Talk, place int) {
	t.Helper()
	if len(b.Talks) != place+1 || b.Talks[place] != talk || b.Lines[talk.A] != place || b.Lines[talk.B] != place ||
		talk.Circuit != -1 && b.Circuits[talk.Circuit] != place {
		t.Errorf("%s does not stand in %s", textOfTalk(talk), textOfBook(b))
	}
	checkFaults(t, b, nil)
	checkMend(t, b, b, nil)
	checkRestarts(t, b, b)
}

// P18: drawn books with and without faults: once mended, what is free may be
// added.
func TestAddsToDrawnBooks(t *testing.T) {
	r := drawn(1805)
	told := map[bool]int{}
	for range 5000 {
		b := drawBook(&r, r.below(6), r.below(2))
		talk := drawTalk(&r, len(b.Lines), len(b.Circuits))
		told[checkSecondAdd(t, b, talk)]++
		mended, _ := impl.MendBook(b)
		checkSecondAdd(t, mended, talk)
	}
	if told[true] < 500 || told[false] < 500 {
		t.Error("too few of a kind", told)
	}
}
