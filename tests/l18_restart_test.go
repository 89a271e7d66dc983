package tests

import (
	"testing"

	"loop.example/g00052/impl"
)

func checkRestart(t *testing.T, b impl.Book, depth int, want impl.Book) {
	t.Helper()
	if got, ok := impl.Restart(b, depth); !ok || !sameBook(got, want) {
		t.Errorf("Restart(%s, %d): %s and %t, not %s", textOfBook(b), depth, textOfBook(got), ok, textOfBook(want))
	}
}

func checkNoRestart(t *testing.T, b impl.Book, depth int) {
	t.Helper()
	if got, ok := impl.Restart(b, depth); ok || !sameBook(got, impl.Book{}) {
		t.Errorf("Restart(%s, %d): %s and %t", textOfBook(b), depth, textOfBook(got), ok)
	}
}

// checkRestarts asks for each depth of a book that may be read, and for one past
// them.
func checkRestarts(t *testing.T, b, mended impl.Book) {
	t.Helper()
	checkRestart(t, b, 1, b)
	checkRestart(t, b, 2, mended)
	checkRestart(t, b, 3, bookBy(nil, len(b.Lines), len(b.Circuits)))
	checkNoRestart(t, b, 0)
	checkNoRestart(t, b, 4)
}

// P18: known books at each depth, with faults and without.
func TestKnownRestarts(t *testing.T) {
	for _, c := range []struct{ book, two, three string }{
		{"| |", "| |", "| |"},
		{"| . . | .", "| . . | .", "| . . | ."},
		{"| 7 . | 30", "| . . | .", "| . . | ."},
		{"0+1/0 2+3 | 0 0 1 1 . | 0 . .", "0+1/0 2+3 | 0 0 1 1 . | 0 . .", "| . . . . . | . . ."},
		{"0+1/0 2+3 | . 1 0 30 4 | . 0 .", "0+1/0 2+3 | 0 0 1 1 . | 0 . .", "| . . . . . | . . ."},
		{"0+0 | 0 |", "| . |", "| . |"},
		{"0+1 1+2 2+3 | 0 0 1 2 |", "0+1 2+3 | 0 0 1 1 |", "| . . . . |"},
		{"0+1/0 2+2 1+3 4+5/1 | 0 2 . 2 3 . 0 | 0 . 3", "0+1/0 4+5/1 | 0 0 . . 1 1 . | 0 1 .", "| . . . . . . . | . . ."},
	} {
		b := bookOf(c.book)
		checkRestart(t, b, 1, b)
		checkRestart(t, b, 2, bookOf(c.two))
		checkRestart(t, b, 3, bookOf(c.three))
		checkRestarts(t, b, bookOf(c.two))
	}
	checkRestart(t, greatBook(), 3, bookBy(nil, 30, 30))
}

// P18, P21: no depth but 1 to 3 is one, whatever the book is.
func TestRestartDepths(t *testing.T) {
	books := []impl.Book{{}, bookOf("| . . | ."), bookOf("0+1 | 0 0 |"), bookOf("0+0 1+0 | 5 5 |"), greatBook(), bookOf("| 31 |")}
	for _, b := range books {
		for _, depth := range outside(1, 3) {
			checkNoRestart(t, b, depth)
		}
	}
}

// P18: a book without faults keeps all its talks over depths 1 and 2; behind
// depth 3 no book has faults.
func TestRestartsOfDrawnBooks(t *testing.T) {
	r := drawn(1806)
	without := 0
	for range 5000 {
		b := drawBook(&r, r.below(1+r.below(8)), r.below(2))
		if r.below(2) == 0 {
			b, _ = impl.MendBook(b)
		}
		if len(impl.Faults(b)) == 0 {
			without++
			checkRestarts(t, b, b)
		}
		for depth := 2; depth <= 3; depth++ {
			again, _ := impl.Restart(b, depth)
			checkFaults(t, again, nil)
			checkRestart(t, again, depth, again)
		}
	}
	if without < 2000 {
		t.Error("too few without faults", without)
	}
}
