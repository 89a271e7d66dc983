package tests

import (
	"fmt"
	"maps"
	"slices"
	"testing"

	"loop.example/g00052/impl"
)

// guardedBook is a book whose lists have spare room behind them, and what lies
// there would be one more talk, line and circuit, were it read.
type guardedBook struct {
	book     impl.Book
	talks    guarded[impl.Talk]
	lines    guarded[int]
	circuits guarded[int]
}

func guardBook(b impl.Book, talk impl.Talk, number int) *guardedBook {
	g := &guardedBook{talks: guard(talk, b.Talks), lines: guard(number, b.Lines), circuits: guard(number, b.Circuits)}
	g.book = impl.Book{Talks: g.talks.list, Lines: g.lines.list, Circuits: g.circuits.list}
	return g
}

func (g *guardedBook) untouched() bool {
	return g.talks.untouched() && g.lines.untouched() && g.circuits.untouched()
}

func (g *guardedBook) scribble() {
	scribbleBook(impl.Book{Talks: g.talks.whole, Lines: g.lines.whole, Circuits: g.circuits.whole})
}

// scribbleBook writes into all that a book reaches.
func scribbleBook(b impl.Book) {
	scribble(b.Talks, impl.Talk{A: -7, B: -8, Circuit: -9})
	scribble(b.Lines, 4321)
	scribble(b.Circuits, 1234)
}

// memoryBooks are such with and without faults, and such that may not be read,
// sorted by why.
func memoryBooks() []impl.Book {
	list := []impl.Book{
		{},
		{Talks: []impl.Talk{}, Lines: []int{}, Circuits: []int{}},
		bookOf("| . . . . | . ."),
		bookOf("| 3 . . 30 | . 0"),
		bookOf("0+1/0 | 0 0 . . . | 0 ."),
		bookOf("0+1/0 4+5 | 0 0 . . 1 1 | 0 . ."),
		bookOf("0+1/0 2+2 1+3 4+5/1 | 0 2 . 2 3 . 0 | 0 . 3"),
		pairsBook(13, 30, 30),
		pairsBook(15, 30, 15),
		greatBook(),
	}
	books := unreadables()
	for _, why := range slices.Sorted(maps.Keys(books)) {
		list = append(list, books[why])
	}
	return list
}

// A bookAnswer is what a call answers: a book, and a list beside it.
type bookAnswer struct {
	book impl.Book
	list []int
	rest string
}

func (a bookAnswer) String() string { return fmt.Sprint(textOfBook(a.book), a.list, a.rest) }

func bookCalls() map[string]func(b impl.Book) bookAnswer {
	calls := map[string]func(b impl.Book) bookAnswer{
		"BookOk": func(b impl.Book) bookAnswer { return bookAnswer{rest: fmt.Sprint(impl.BookOk(b))} },
		"Faults": func(b impl.Book) bookAnswer { return bookAnswer{rest: textOfFaults(impl.Faults(b))} },
		"MendBook": func(b impl.Book) bookAnswer {
			mended, gone := impl.MendBook(b)
			return bookAnswer{book: mended, list: gone}
		},
	}
	for _, word := range []string{"2+3", "3+2/1", "0+1", "2+2", "28+29/0", "30+31/30"} {
		calls["Add18 "+word] = func(b impl.Book) bookAnswer {
			added, ok := impl.Add18(b, talkOf(word))
			return bookAnswer{book: added, rest: fmt.Sprint(ok)}
		}
	}
	for depth := range 5 {
		calls[fmt.Sprint("Restart ", depth)] = func(b impl.Book) bookAnswer {
			again, ok := impl.Restart(b, depth)
			return bookAnswer{book: again, rest: fmt.Sprint(ok)}
		}
	}
	return calls
}

// P18: no call writes into a book or behind its lists, reads what lies there, or
// answers what shares memory with it or with another answer.
func TestBookMemory(t *testing.T) {
	calls := bookCalls()
	for _, name := range slices.Sorted(maps.Keys(calls)) {
		call := calls[name]
		for _, b := range memoryBooks() {
			want := call(copyOfBook(b)).String()
			for number, talk := range []impl.Talk{{}, {A: 2, B: 3, Circuit: -1}, {A: 1, B: 0, Circuit: 1}} {
				g := guardBook(b, talk, number-1)
				first, second := call(g.book), call(g.book)
				if first.String() != want || !g.untouched() {
					t.Errorf("%s of %s: written into, or another answer", name, textOfBook(b))
				}
				scribbleBook(first.book)
				scribble(first.list, 777)
				if second.String() != want || call(g.book).String() != want || !g.untouched() {
					t.Errorf("%s of %s: shared", name, textOfBook(b))
				}
				g.scribble()
				if second.String() != want {
					t.Errorf("%s of %s: an argument is handed out", name, textOfBook(b))
				}
			}
		}
	}
}

// P18: Faults hands out a list of its own each time.
func TestFaultsMemory(t *testing.T) {
	for _, b := range memoryBooks() {
		want := textOfFaults(impl.Faults(b))
		first, second := impl.Faults(b), impl.Faults(b)
		scribble(first, impl.Fault{Kind: 1, At: 77})
		if textOfFaults(second) != want || textOfFaults(impl.Faults(b)) != want {
			t.Errorf("%s: shared", textOfBook(b))
		}
	}
}

// checkAnswerApart writes into each list of an answer in turn and looks whether
// another one changes by it.
func checkAnswerApart(t *testing.T, why string, a bookAnswer) {
	t.Helper()
	lists := []*[]int{&a.book.Lines, &a.book.Circuits, &a.list}
	for i, one := range lists {
		var before [][]int
		for _, other := range lists {
			before = append(before, slices.Clone(*other))
		}
		scribble(*one, 4000+i)
		for k, other := range lists {
			if k != i && !slices.Equal(*other, before[k]) {
				t.Errorf("%s: lists of the answer share", why)
			}
		}
	}
}

// P18: no two lists of one answer share memory, those of an argument may.
func TestBookListsApart(t *testing.T) {
	calls := bookCalls()
	for _, name := range slices.Sorted(maps.Keys(calls)) {
		for _, b := range memoryBooks() {
			checkAnswerApart(t, name+" of "+textOfBook(b), calls[name](b))
		}
		for _, numbers := range [][]int{minuses(4), {0, 0, -1, -1}, {5, -1, 31, 0}, minuses(31)} {
			for _, talks := range [][]impl.Talk{nil, talksOf("0+1/0"), talksOf("0+1/0 1+2/0"), talksOf("0+9")} {
				// One list in both places: all of it, its beginning, nothing of it.
				for _, n := range []int{len(numbers), 2, 0} {
					g := guard(-1, numbers)
					b := impl.Book{Talks: talks, Lines: g.list, Circuits: g.list[:n]}
					want := calls[name](copyOfBook(b)).String()
					got := calls[name](b)
					if got.String() != want || !g.untouched() {
						t.Errorf("%s of %s, of one list: %v, not %s", name, textOfBook(b), got, want)
					}
					checkAnswerApart(t, name+" of one list", got)
					if !g.untouched() {
						t.Errorf("%s of %s, of one list: shared", name, textOfBook(b))
					}
				}
			}
		}
	}
}

// P18: what was answered may be handed in again, and stays as it was.
func TestAnswersHandedInAgain(t *testing.T) {
	b := bookBy(nil, 30, 30)
	var all []impl.Book
	var told []string
	for i := range 15 {
		b, _ = impl.Add18(b, impl.Talk{A: 2 * i, B: 2*i + 1, Circuit: i})
		all = append(all, b)
		told = append(told, textOfBook(b))
		for depth := 1; depth <= 3; depth++ {
			again, _ := impl.Restart(b, depth)
			scribbleBook(again)
		}
		mended, gone := impl.MendBook(b)
		scribbleBook(mended)
		scribble(gone, 5)
		refused, _ := impl.Add18(b, impl.Talk{})
		scribbleBook(refused)
	}
	for i := range all {
		if textOfBook(all[i]) != told[i] {
			t.Error("another book behind other calls", i, textOfBook(all[i]), told[i])
		}
	}
}

// P18: no call plays a part in what another one answers, nor do several at once,
// those that may not be read among them.
func TestBooksKeepNothing(t *testing.T) {
	calls := bookCalls()
	names := slices.Sorted(maps.Keys(calls))
	books := memoryBooks()
	tell := func(r *drawn) string {
		text := ""
		for _, b := range books {
			for _, name := range names {
				text += calls[name](b).String() + "\n"
				calls[names[r.below(len(names))]](drawBook(r, r.below(9), r.below(4)))
				calls[names[r.below(len(names))]](books[r.below(len(books))])
			}
		}
		return text
	}
	checkToldAlike(t, 1807, tell)
}
