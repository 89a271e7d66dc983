package tests

import (
	"cmp"
	"fmt"
	"maps"
	"slices"
	"strings"
	"testing"

	"loop.example/g00052/impl"
)

var faultNames = []string{"?", "twice", "self", "line", "free", "circuit", "seized", "book"}

// faultsOf reads faults as their kinds and places: "twice 2 self 1 line 5".
func faultsOf(text string) []impl.Fault {
	var list []impl.Fault
	words := strings.Fields(text)
	for i := 0; i < len(words); i += 2 {
		f := impl.Fault{Kind: slices.Index(faultNames, words[i])}
		mustScan(words[i+1], "%d", &f.At)
		list = append(list, f)
	}
	return list
}

func textOfFaults(list []impl.Fault) string {
	var words []string
	for _, f := range list {
		name := fmt.Sprint("kind ", f.Kind)
		if f.Kind > 0 && f.Kind < len(faultNames) {
			name = faultNames[f.Kind]
		}
		words = append(words, fmt.Sprint(name, " ", f.At))
	}
	return strings.Join(words, " ")
}

func checkFaults(t *testing.T, b impl.Book, want []impl.Fault) {
	t.Helper()
	if got := impl.Faults(b); !slices.Equal(got, want) {
		t.Errorf("%s: %s, not %s", textOfBook(b), textOfFaults(got), textOfFaults(want))
	}
}

func holdersOfLine(b impl.Book, line int) []int {
	var places []int
	for place, talk := range b.Talks {
		if talk.A == line || talk.B == line {
			places = append(places, place)
		}
	}
	return places
}

func holdersOfCircuit(b impl.Book, circuit int) []int {
	var places []int
	for place, talk := range b.Talks {
		if talk.Circuit == circuit {
			places = append(places, place)
		}
	}
	return places
}

// faultsByHolders asks of each line and circuit which talks have it: all but the
// first of them have it twice. The faults are a set, which is sorted.
func faultsByHolders(b impl.Book) []impl.Fault {
	set := map[impl.Fault]bool{}
	ask := func(numbers []int, holders func(b impl.Book, at int) []int, had, free int) {
		for at, number := range numbers {
			places := holders(b, at)
			if len(places) == 0 {
				set[impl.Fault{Kind: free, At: at}] = number != -1
				continue
			}
			set[impl.Fault{Kind: had, At: at}] = number != places[0]
			for _, place := range places[1:] {
				set[impl.Fault{Kind: 1, At: place}] = true
			}
		}
	}
	ask(b.Lines, holdersOfLine, 3, 4)
	ask(b.Circuits, holdersOfCircuit, 5, 6)
	for place, talk := range b.Talks {
		set[impl.Fault{Kind: 2, At: place}] = talk.A == talk.B
	}
	maps.DeleteFunc(set, func(f impl.Fault, is bool) bool { return !is })
	return slices.SortedFunc(maps.Keys(set), func(f, g impl.Fault) int {
		return cmp.Or(cmp.Compare(f.Kind, g.Kind), cmp.Compare(f.At, g.At))
	})
}

// P18: the kinds are the document's numbers.
func TestFaultKinds(t *testing.T) {
	kinds := []int{impl.FaultTwice, impl.FaultSelf, impl.FaultLine, impl.FaultFree, impl.FaultCircuit, impl.FaultSeized, impl.FaultBook}
	if !slices.Equal(kinds, []int{1, 2, 3, 4, 5, 6, 7}) {
		t.Error(kinds)
	}
}

// P18: known books.
func TestKnownFaults(t *testing.T) {
	for _, c := range []struct{ book, want string }{
		{"| |", ""},
		{"| . . | .", ""},
		{"0+1 | 0 0 |", ""},
		{"1+0/0 | 0 0 | 0", ""},
		{"0+1/0 2+3 | 0 0 1 1 . | 0 . .", ""},
		{"4+1/2 2+3/0 0+5 | 2 0 1 1 0 2 | 1 . 0", ""},
		// Several without a circuit share none.
		{"0+1 2+3 4+5 | 0 0 1 1 2 2 |", ""},
		{"0+1 2+3 4+5 | 0 0 1 1 2 2 | . .", ""},
		// A line that a talk ahead has: A or B here, A or B there.
		{"0+1 0+2 | 0 0 1 |", "twice 1"},
		{"0+1 2+0 | 0 0 1 |", "twice 1"},
		{"0+1 1+2 | 0 0 1 |", "twice 1"},
		{"0+1 2+1 | 0 0 1 |", "twice 1"},
		{"0+1 0+1 | 0 0 |", "twice 1"},
		{"0+1 1+0 | 0 0 |", "twice 1"},
		// Shares only a circuit, only the circuit -1, or all.
		{"0+1/0 2+3/0 | 0 0 1 1 | 0", "twice 1"},
		{"0+1/0 2+3/1 | 0 0 1 1 | 0 1", ""},
		{"0+1/1 2+3 4+5/1 | 0 0 1 1 2 2 | . 0", "twice 2"},
		{"0+1/0 1+0/0 | 0 0 | 0", "twice 1"},
		{"0+1/0 0+2/1 | 0 0 1 | 0 1", "twice 1"},
		// One fault for all that a talk shares, and with whomever.
		{"0+1/0 2+3/1 0+2/1 | 0 0 1 1 | 0 1", "twice 2"},
		{"0+1 0+2 0+3 | 0 0 1 2 |", "twice 1 twice 2"},
		{"0+1 2+3 4+5 3+4 | 0 0 1 1 2 2 |", "twice 3"},
		{"0+1 2+3 4+5 4+1 | 0 0 1 1 2 2 |", "twice 3"},
		// Shares with one that shares.
		{"0+1 1+2 2+3 | 0 0 1 2 |", "twice 1 twice 2"},
		// Its A and B are one; it has a line that later ones share with it.
		{"0+0 | 0 |", "self 0"},
		{"0+0/0 | 0 | 0", "self 0"},
		{"0+0 1+1 2+3 | 0 1 2 2 |", "self 0 self 1"},
		{"0+0 0+1 | 0 1 |", "twice 1 self 0"},
		{"0+1 0+0 | 0 0 |", "twice 1 self 1"},
		{"0+0 0+0 | 0 |", "twice 1 self 0 self 1"},
		// A line of a talk is in none by Lines, in a later one that has it, in one that has it not, in one that is not there.
		{"0+1 2+3 | . 0 1 1 |", "line 0"},
		{"0+1 2+3 | 0 . 1 1 |", "line 1"},
		{"0+1 2+3 | 0 0 . . |", "line 2 line 3"},
		{"0+1 0+2 | 1 0 1 |", "twice 1 line 0"},
		{"0+1 2+3 | 0 1 1 1 |", "line 1"},
		{"0+1 2+3 | 0 0 2 1 |", "line 2"},
		{"0+1 2+3 | 0 0 30 29 |", "line 2 line 3"},
		{"0+1 2+3 | 1 1 0 0 |", "line 0 line 1 line 2 line 3"},
		{"2+2 0+1 | 1 1 . |", "self 0 line 2"},
		// A line that no talk has.
		{"| 0 |", "free 0"},
		{"| . 30 . 0 |", "free 1 free 3"},
		{"0+1 | 0 0 0 |", "free 2"},
		{"0+1 | 0 0 1 . 30 |", "free 2 free 4"},
		// Circuits, likewise.
		{"0+1/0 | 0 0 | .", "circuit 0"},
		{"0+1/1 2+3/0 | 0 0 1 1 | 0 0", "circuit 0"},
		{"0+1/1 2+3/0 | 0 0 1 1 | 0 1", "circuit 0 circuit 1"},
		{"0+1/1 2+3/0 | 0 0 1 1 | 30 2", "circuit 0 circuit 1"},
		{"0+1/0 2+3/0 | 0 0 1 1 | 1", "twice 1 circuit 0"},
		{"| | 0", "seized 0"},
		{"0+1 | 0 0 | 0 . 30", "seized 0 seized 2"},
		{"0+1/1 | 0 0 | 0 0 0", "seized 0 seized 2"},
		// All at once, by kind and then by place.
		{"0+1/0 2+2 1+3 4+5/1 | 0 2 . 2 3 . 0 | 0 . 3", "twice 2 self 1 line 1 line 2 line 5 free 6 circuit 1 seized 2"},
		{"3+3 3+3/1 1+3/1 | 7 . 7 . | 7 .", "twice 1 twice 2 self 0 self 1 line 1 line 3 free 0 free 2 circuit 1 seized 0"},
		// A book that may not be read has no other fault.
		{"0+0 0+0 | 31 |", "book 0"},
		{"0+1 1+2 | 0 0 |", "book 0"},
		{"0+1/1 1+1 | 5 5 | .", "book 0"},
		{"0+1 | 7 7 | . . -2", "book 0"},
	} {
		b, want := bookOf(c.book), faultsOf(c.want)
		checkFaults(t, b, want)
		if told := faultsByHolders(b); readableByEnds(b) && !slices.Equal(told, want) {
			t.Errorf("the second telling of %s is wrong: %s", c.book, textOfFaults(told))
		}
	}
}

// everyTalks visits all lists of n talks of so many lines and circuits; the list
// is one and the same.
func everyTalks(n, lines, circuits int, visit func(talks []impl.Talk)) {
	talks := make([]impl.Talk, n)
	var put func(at int)
	put = func(at int) {
		if at == n {
			visit(talks)
			return
		}
		for a := range lines {
			for b := range lines {
				for circuit := -1; circuit < circuits; circuit++ {
					talks[at] = impl.Talk{A: a, B: b, Circuit: circuit}
					put(at + 1)
				}
			}
		}
	}
	put(0)
}

// everyNumbers visits all lists of n numbers in -1 .. most.
func everyNumbers(n, most int, visit func(list []int)) {
	list := make([]int, n)
	var put func(at int)
	put = func(at int) {
		if at == n {
			visit(list)
			return
		}
		for list[at] = -1; list[at] <= most; list[at]++ {
			put(at + 1)
		}
	}
	put(0)
}

// P18: all books of few talks, with all that their Lines and Circuits may say.
func TestAllSmallBooks(t *testing.T) {
	for n := range 3 {
		everyTalks(n, 3, 1, func(talks []impl.Talk) {
			everyNumbers(4, 2, func(list []int) {
				checkSecondBook(t, impl.Book{Talks: talks, Lines: list[:3], Circuits: list[3:]})
			})
		})
		everyTalks(n, 2, 2, func(talks []impl.Talk) {
			everyNumbers(4, 1, func(list []int) {
				checkSecondBook(t, impl.Book{Talks: talks, Lines: list[:2], Circuits: list[2:]})
			})
		})
	}
}

// P18: all few talks, with Lines and Circuits that say what they say.
func TestAllSmallTalks(t *testing.T) {
	for n := range 4 {
		everyTalks(n, 4, 1, func(talks []impl.Talk) { checkSecondBook(t, bookBy(talks, 4, 1)) })
	}
	everyTalks(4, 2, 1, func(talks []impl.Talk) { checkSecondBook(t, bookBy(talks, 3, 2)) })
	everyTalks(4, 3, 0, func(talks []impl.Talk) { checkSecondBook(t, bookBy(talks, 3, 1)) })
}

func drawTalk(r *drawn, lines, circuits int) impl.Talk {
	return impl.Talk{A: r.below(lines), B: r.below(lines), Circuit: r.below(circuits+1) - 1}
}

// drawBook has n talks at the most, of lines of which it has one at least, and
// so many numbers that are drawn anew behind what the talks say.
func drawBook(r *drawn, n, off int) impl.Book {
	lines, circuits := 1+r.below(30), r.below(31)
	var talks []impl.Talk
	for range n {
		talks = append(talks, drawTalk(r, lines, circuits))
	}
	b := bookBy(talks, lines, circuits)
	for range off {
		b.Lines[r.below(lines)] = r.below(32) - 1
		if circuits > 0 {
			b.Circuits[r.below(circuits)] = r.below(32) - 1
		}
	}
	return b
}

// P18: drawn books of all sizes.
func TestDrawnBooks(t *testing.T) {
	r := drawn(1801)
	told := map[int]int{}
	for range 20000 {
		b := drawBook(&r, r.below(31), r.below(2)*r.below(9))
		checkReadable(t, "drawn", b)
		for _, f := range impl.Faults(b) {
			told[f.Kind]++
		}
	}
	for kind := 1; kind <= 6; kind++ {
		if told[kind] < 5000 {
			t.Error("too few of a kind", told)
		}
	}
}

// P18: each kind by itself at each place of a great book.
func TestEachFaultAlone(t *testing.T) {
	b := pairsBook(14, 30, 30)
	checkFaults(t, b, nil)
	for at := range 30 {
		for n := -1; n <= 30; n++ {
			one := impl.Fault{Kind: 3, At: at}
			if at >= 28 {
				one.Kind = 4
			}
			off := changedBook(b, func(b *impl.Book) { b.Lines[at] = n })
			if n == b.Lines[at] {
				checkFaults(t, off, nil)
			} else {
				checkFaults(t, off, []impl.Fault{one})
			}
			one.Kind = 5
			if at < 16 {
				one.Kind = 6
			}
			off = changedBook(b, func(b *impl.Book) { b.Circuits[at] = n })
			if n == b.Circuits[at] {
				checkFaults(t, off, nil)
			} else {
				checkFaults(t, off, []impl.Fault{one})
			}
		}
	}
	for place := range 14 {
		talks := slices.Clone(b.Talks)
		talks[place].B = talks[place].A
		checkFaults(t, bookBy(talks, 30, 30), []impl.Fault{{Kind: 2, At: place}})
		for other := range place {
			talks = slices.Clone(b.Talks)
			talks[place].B = talks[other].A
			checkFaults(t, bookBy(talks, 30, 30), []impl.Fault{{Kind: 1, At: place}})
			talks = slices.Clone(b.Talks)
			talks[place].A = talks[other].B
			checkFaults(t, bookBy(talks, 30, 30), []impl.Fault{{Kind: 1, At: place}})
			talks = slices.Clone(b.Talks)
			talks[place].Circuit = talks[other].Circuit
			checkFaults(t, bookBy(talks, 30, 30), []impl.Fault{{Kind: 1, At: place}})
			talks[place].Circuit, talks[other].Circuit = -1, -1
			checkFaults(t, bookBy(talks, 30, 30), nil)
		}
	}
}

// P18: as many faults as there can be.
func TestMostFaults(t *testing.T) {
	b := impl.Book{Talks: slices.Repeat(talksOf("29+29/29"), 30), Lines: slices.Repeat([]int{30}, 30), Circuits: slices.Repeat([]int{30}, 30)}
	var want []impl.Fault
	for kind := 1; kind <= 6; kind++ {
		for at := range 30 {
			if kind == 1 && at == 0 || (kind == 3 || kind == 5) && at != 29 || (kind == 4 || kind == 6) && at == 29 {
				continue
			}
			want = append(want, impl.Fault{Kind: kind, At: at})
		}
	}
	if len(want) != 29+30+1+29+1+29 {
		t.Error("the faults are counted wrong")
	}
	checkFaults(t, b, want)
	checkSecondBook(t, b)
}
