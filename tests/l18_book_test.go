package tests

import (
	"fmt"
	"maps"
	"slices"
	"strings"
	"testing"

	"loop.example/g00052/impl"
)

// The tests of books write a book as text: "0+1/0 2+3 | 0 0 1 1 . | 0 .". Its
// Talks stand first, each with A, B and, behind a /, its Circuit (without one it
// is -1), then Lines and Circuits, with a . for -1.

func talkOf(word string) impl.Talk {
	talk := impl.Talk{Circuit: -1}
	lines, circuit, has := strings.Cut(word, "/")
	mustScan(lines, "%d+%d", &talk.A, &talk.B)
	if has {
		mustScan(circuit, "%d", &talk.Circuit)
	}
	return talk
}

func textOfTalk(talk impl.Talk) string {
	text := fmt.Sprintf("%d+%d", talk.A, talk.B)
	if talk.Circuit != -1 {
		text += fmt.Sprintf("/%d", talk.Circuit)
	}
	return text
}

func talksOf(text string) []impl.Talk {
	var talks []impl.Talk
	for _, word := range strings.Fields(text) {
		talks = append(talks, talkOf(word))
	}
	return talks
}

func bookNumbersOf(text string) []int { return numbersOf(strings.ReplaceAll(text, ".", "-1")) }

func textOfBookNumbers(list []int) string {
	text := ""
	for _, n := range list {
		if n == -1 {
			text += " ."
		} else {
			text += fmt.Sprint(" ", n)
		}
	}
	return text
}

func bookOf(text string) impl.Book {
	parts := strings.Split(text, "|")
	if len(parts) != 3 {
		panic("no book: " + text)
	}
	return impl.Book{Talks: talksOf(parts[0]), Lines: bookNumbersOf(parts[1]), Circuits: bookNumbersOf(parts[2])}
}

func textOfBook(b impl.Book) string {
	text := ""
	for _, talk := range b.Talks {
		text += textOfTalk(talk) + " "
	}
	return text + "|" + textOfBookNumbers(b.Lines) + " |" + textOfBookNumbers(b.Circuits)
}

func sameBook(a, b impl.Book) bool {
	return slices.Equal(a.Talks, b.Talks) && slices.Equal(a.Lines, b.Lines) && slices.Equal(a.Circuits, b.Circuits)
}

func copyOfBook(b impl.Book) impl.Book {
	return impl.Book{Talks: slices.Clone(b.Talks), Lines: slices.Clone(b.Lines), Circuits: slices.Clone(b.Circuits)}
}

// minuses are n numbers -1: so many lines, or circuits, that are free.
func minuses(n int) []int { return slices.Repeat([]int{-1}, n) }

// bookBy has Lines and Circuits, so many, say the first of these talks that has
// each. It goes from the last talk to the first, each of which writes over those
// behind it.
func bookBy(talks []impl.Talk, lines, circuits int) impl.Book {
	b := impl.Book{Talks: slices.Clone(talks), Lines: minuses(lines), Circuits: minuses(circuits)}
	for place, talk := range slices.Backward(talks) {
		b.Lines[talk.A], b.Lines[talk.B] = place, place
		if talk.Circuit != -1 {
			b.Circuits[talk.Circuit] = place
		}
	}
	return b
}

// pairsBook has n talks without faults: lines 0 and 1, 2 and 3 and so on, each
// with a circuit, counted down.
func pairsBook(n, lines, circuits int) impl.Book {
	var talks []impl.Talk
	for i := range n {
		talks = append(talks, impl.Talk{A: 2 * i, B: 2*i + 1, Circuit: circuits - 1 - i})
	}
	return bookBy(talks, lines, circuits)
}

// greatBook has MaxBook of all: each line is in two talks, each circuit in one.
func greatBook() impl.Book {
	var talks []impl.Talk
	for i := range 30 {
		talks = append(talks, impl.Talk{A: i, B: 29 - i, Circuit: (i + 7) % 30})
	}
	return bookBy(talks, 30, 30)
}

func changedBook(b impl.Book, change func(b *impl.Book)) impl.Book {
	b = copyOfBook(b)
	change(&b)
	return b
}

// readableByEnds takes the least and the greatest of all numbers of a kind.
func readableByEnds(b impl.Book) bool {
	lines, circuits, numbers := []int{}, []int{-1}, append(slices.Clone(b.Lines), b.Circuits...)
	for _, talk := range b.Talks {
		lines = append(lines, talk.A, talk.B)
		circuits = append(circuits, talk.Circuit)
	}
	if len(lines) > 0 && (slices.Min(lines) < 0 || slices.Max(lines) >= len(b.Lines)) {
		return false
	}
	if len(numbers) > 0 && (slices.Min(numbers) < -1 || slices.Max(numbers) > 30) {
		return false
	}
	return slices.Min(circuits) >= -1 && slices.Max(circuits) < len(b.Circuits) &&
		max(len(b.Talks), len(b.Lines), len(b.Circuits)) <= 30
}

// checkReadable asks all five functions about a book that may be read, faults or
// none.
func checkReadable(t *testing.T, why string, b impl.Book) {
	t.Helper()
	if !impl.BookOk(b) {
		t.Errorf("%s: %s may not be read", why, textOfBook(b))
	}
	checkSecondBook(t, b)
}

// checkSecondBook holds Faults, MendBook and Restart against second tellings.
func checkSecondBook(t *testing.T, b impl.Book) {
	t.Helper()
	checkFaults(t, b, faultsByHolders(b))
	mended, gone := mendByHeads(b)
	checkMend(t, b, mended, gone)
	checkRestarts(t, b, mended)
}

// checkUnreadable asks all five functions about a book that may not be read.
func checkUnreadable(t *testing.T, why string, b impl.Book) {
	t.Helper()
	if impl.BookOk(b) {
		t.Errorf("%s: %s may be read", why, textOfBook(b))
	}
	checkFaults(t, b, []impl.Fault{{Kind: impl.FaultBook}})
	if mended, gone := impl.MendBook(b); !sameBook(mended, impl.Book{}) || len(gone) != 0 {
		t.Errorf("%s: %s is mended to %s, without %d", why, textOfBook(b), textOfBook(mended), gone)
	}
	for _, talk := range talksOf("0+1 0+1/0 0+0 3+2 28+29/29") {
		checkTalkRefused(t, b, talk)
	}
	for _, depth := range []int{0, 1, 2, 3, 4} {
		checkNoRestart(t, b, depth)
	}
}

// unreadables are books that may not be read, each for one number or size.
func unreadables() map[string]impl.Book {
	few := bookOf("0+1/0 2+3 | 0 0 1 1 . | 0 . .")
	books := map[string]impl.Book{
		"31 talks":                  changedBook(greatBook(), func(b *impl.Book) { b.Talks = append(b.Talks, talkOf("0+1")) }),
		"31 lines":                  changedBook(few, func(b *impl.Book) { b.Lines = append(b.Lines, minuses(26)...) }),
		"31 circuits":               changedBook(few, func(b *impl.Book) { b.Circuits = append(b.Circuits, minuses(28)...) }),
		"31 lines alone":            bookBy(nil, 31, 0),
		"31 circuits alone":         bookBy(nil, 0, 31),
		"a talk without lines":      {Talks: talksOf("0+0")},
		"a talk with one line":      {Talks: talksOf("0+1"), Lines: []int{0}},
		"a circuit where none is":   {Talks: talksOf("0+1/0"), Lines: []int{0, 0}},
		"a circuit below none":      {Talks: talksOf("0+1/-2"), Lines: []int{0, 0}},
		"many talks, nothing else":  {Talks: make([]impl.Talk, 400)},
		"many lines":                bookBy(nil, 400, 2),
		"many circuits":             bookBy(nil, 2, 400),
		"a line behind a number 31": {Lines: []int{-1, 31, -1}},
		"a circuit in the talk -2":  {Circuits: []int{-1, -1, -2}},
	}
	for name, n := range map[string]int{"least": -2, "most": 31} {
		books["a line, "+name] = changedBook(few, func(b *impl.Book) { b.Lines[4] = n })
		books["a circuit, "+name] = changedBook(few, func(b *impl.Book) { b.Circuits[2] = n })
		books["both, "+name] = changedBook(few, func(b *impl.Book) { b.Lines[0], b.Circuits[0] = n, n })
	}
	return books
}

// P18: books that may be read, faults or none, and some that may not.
func TestKnownBooks(t *testing.T) {
	for _, text := range []string{
		"| |", "| . |", "| | .", "| 30 | 30", "| 0 1 29 30 | 30 0",
		"0+1 | 0 0 |", "0+0 | 0 |", "0+0/0 | . | .", "0+1/0 2+3 | 0 0 1 1 . | 0 . .",
		"0+1/0 0+1/0 0+1/0 | 7 8 | 9", "2+1/1 | . . . | . .",
	} {
		b := bookOf(text)
		if got := bookOf(textOfBook(b)); !sameBook(got, b) {
			t.Errorf("the text of %s is wrong: %s", text, textOfBook(got))
		}
		checkReadable(t, text, b)
		if !readableByEnds(b) {
			t.Errorf("the second telling of %s is wrong", text)
		}
	}
	checkReadable(t, "great", greatBook())
	checkReadable(t, "zero value", impl.Book{})
	checkReadable(t, "empty lists", impl.Book{Talks: []impl.Talk{}, Lines: []int{}, Circuits: []int{}})
	books := unreadables()
	for _, why := range slices.Sorted(maps.Keys(books)) {
		checkUnreadable(t, why, books[why])
		if readableByEnds(books[why]) {
			t.Errorf("the second telling is wrong: %s", why)
		}
	}
}

// P18, P21: at most MaxBook talks, lines and circuits, each size by itself and
// all of them at once.
func TestSizesOfBooks(t *testing.T) {
	if impl.MaxBook != 30 {
		t.Error("MaxBook", impl.MaxBook)
	}
	for n := range 36 {
		check := checkReadable
		if n > 30 {
			check = checkUnreadable
		}
		check(t, fmt.Sprint(n, " lines"), bookBy(nil, n, 0))
		check(t, fmt.Sprint(n, " circuits"), bookBy(nil, 0, n))
		check(t, fmt.Sprint(n, " talks"), bookBy(slices.Repeat(talksOf("1+2"), n), 3, 0))
		check(t, fmt.Sprint(n, " talks of all lines"), bookBy(slices.Repeat(talksOf("29+0/29"), n), 30, 30))
		check(t, fmt.Sprint(n, " lines beside talks"), bookBy(talksOf("0+1/0 1+0"), max(n, 2), 1))
		check(t, fmt.Sprint(n, " circuits beside talks"), bookBy(talksOf("0+1/0 1+0"), 2, max(n, 1)))
		check(t, fmt.Sprint(n, " of all"), bookBy(make([]impl.Talk, n), n, n))
	}
	for _, n := range []int{31, 32, 60, 61, 62, 64, 256, 100000} {
		checkUnreadable(t, fmt.Sprint(n, " lines"), bookBy(talksOf("0+1/0"), n, 1))
		checkUnreadable(t, fmt.Sprint(n, " circuits"), bookBy(talksOf("0+1/0"), 2, n))
		checkUnreadable(t, fmt.Sprint(n, " talks"), bookBy(slices.Repeat(talksOf("0+1"), n), 2, 0))
	}
}

// P18, P21: the lines that a talk names are those that the book has, at either
// end of any talk.
func TestLinesOfTalks(t *testing.T) {
	for _, lines := range []int{1, 2, 5, 29, 30} {
		for _, n := range []int{1, 2, 30} {
			b := bookBy(make([]impl.Talk, n), lines, 1)
			for place := range n {
				for line := range lines {
					checkReadable(t, "A", changedBook(b, func(b *impl.Book) { b.Talks[place].A = line }))
					checkReadable(t, "B", changedBook(b, func(b *impl.Book) { b.Talks[place].B = line }))
				}
				for _, wrong := range outside(0, lines-1) {
					checkUnreadable(t, "A", changedBook(b, func(b *impl.Book) { b.Talks[place].A = wrong }))
					checkUnreadable(t, "B", changedBook(b, func(b *impl.Book) { b.Talks[place].B = wrong }))
				}
			}
		}
	}
	for _, line := range []int{-1, 0, 1, 29, 30} {
		checkUnreadable(t, "no lines", impl.Book{Talks: []impl.Talk{{A: line, B: line, Circuit: -1}}, Circuits: minuses(30)})
	}
}

// P18, P21: the circuits that a talk names are those that the book has, or -1;
// how many lines there are plays no part.
func TestCircuitsOfTalks(t *testing.T) {
	for _, circuits := range []int{0, 1, 2, 5, 29, 30} {
		for _, n := range []int{1, 2, 30} {
			b := bookBy(slices.Repeat(talksOf("1+2"), n), 3, circuits)
			for place := range n {
				for circuit := -1; circuit < circuits; circuit++ {
					checkReadable(t, "Circuit", changedBook(b, func(b *impl.Book) { b.Talks[place].Circuit = circuit }))
				}
				for _, wrong := range outside(-1, circuits-1) {
					checkUnreadable(t, "Circuit", changedBook(b, func(b *impl.Book) { b.Talks[place].Circuit = wrong }))
				}
			}
		}
	}
}

// P18, P21: the numbers of Lines and Circuits are -1 to MaxBook, however many
// talks there are.
func TestNumbersOfBooks(t *testing.T) {
	for _, b := range []impl.Book{
		bookBy(nil, 30, 30), bookBy(nil, 1, 1), bookOf("0+1/0 2+3 | 0 0 1 1 . | 0 . ."), pairsBook(15, 30, 30), greatBook(),
	} {
		for place := range b.Lines {
			for n := -1; n <= 30; n++ {
				checkReadable(t, "Lines", changedBook(b, func(b *impl.Book) { b.Lines[place] = n }))
			}
			for _, wrong := range outside(-1, 30) {
				checkUnreadable(t, "Lines", changedBook(b, func(b *impl.Book) { b.Lines[place] = wrong }))
			}
		}
		for place := range b.Circuits {
			for n := -1; n <= 30; n++ {
				checkReadable(t, "Circuits", changedBook(b, func(b *impl.Book) { b.Circuits[place] = n }))
			}
			for _, wrong := range outside(-1, 30) {
				checkUnreadable(t, "Circuits", changedBook(b, func(b *impl.Book) { b.Circuits[place] = wrong }))
			}
		}
	}
}

// P18: all books of few talks whose numbers are right or off by one.
func TestAllNearlyReadableBooks(t *testing.T) {
	told := map[bool]int{}
	for lines := range 3 {
		for circuits := range 3 {
			n := (lines + 2) * (lines + 2) * (circuits + 3)
			for i := range n * n {
				talk := func(i int) impl.Talk {
					return impl.Talk{A: i%(lines+2) - 1, B: i/(lines+2)%(lines+2) - 1, Circuit: i/(lines+2)/(lines+2) - 2}
				}
				b := impl.Book{Talks: []impl.Talk{talk(i % n), talk(i / n)}, Lines: minuses(lines), Circuits: minuses(circuits)}
				want := readableByEnds(b)
				told[want]++
				if impl.BookOk(b) != want {
					t.Errorf("%s: not %t", textOfBook(b), want)
				}
			}
		}
	}
	if told[true] != 238 || told[false] < 3000 {
		t.Error("not so many of a kind", told)
	}
}
