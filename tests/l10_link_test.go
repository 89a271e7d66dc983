package tests

import (
	"fmt"
	"math"
	"slices"
	"strings"
	"testing"

	"loop.example/g00052/impl"
)

// The tests of links write one as text: end 0 and end 1, each by its Out (a
// letter a message, "." an empty one, "-" for none at all), its Sent, Acked and
// Taken, then the Units, each by the end it goes to, its Seq and its Ack, with
// "~" ahead on the way that is not used, and "way1" when way 1 is used:
// "abc:2.1.0 x:0.0.2 1<2/0 ~0<0/2 way1". In and Data are what they are to be:
// the beginning of the other's Out, and the message of the other end.

func outFrom(letters string) []string {
	if letters == "-" {
		return nil
	}
	return strings.Split(strings.ReplaceAll(strings.Join(strings.Split(letters, ""), "\n"), ".", ""), "\n")
}

func endFrom(word string) impl.End {
	letters, numbers, _ := strings.Cut(word, ":")
	end := impl.End{Out: outFrom(letters)}
	mustScan(numbers, "%d.%d.%d", &end.Sent, &end.Acked, &end.Taken)
	return end
}

func linkOf(text string) impl.Link {
	var l impl.Link
	words := strings.Fields(text)
	l.Ends = [2]impl.End{endFrom(words[0]), endFrom(words[1])}
	words = words[2:]
	if len(words) > 0 && words[len(words)-1] == "way1" {
		l.Use = 1
		words = words[:len(words)-1]
	}
	for end := range 2 {
		l.Ends[end].In = slices.Clone(l.Ends[1-end].Out[:l.Ends[end].Taken])
	}
	for _, word := range words {
		rest := strings.TrimPrefix(word, "~")
		way := l.Use
		if rest != word {
			way = 1 - way
		}
		var to int
		var unit impl.Unit
		mustScan(rest, "%d<%d/%d", &to, &unit.Seq, &unit.Ack)
		if unit.Seq > 0 {
			unit.Data = l.Ends[1-to].Out[unit.Seq-1]
		}
		l.Ways[way][to] = append(l.Ways[way][to], unit)
	}
	return l
}

func sameEnd(a impl.End, b impl.End) bool {
	return slices.Equal(a.Out, b.Out) && slices.Equal(a.In, b.In) && a.Sent == b.Sent && a.Acked == b.Acked && a.Taken == b.Taken
}

func sameLink(a impl.Link, b impl.Link) bool {
	for way := range 2 {
		if !sameEnd(a.Ends[way], b.Ends[way]) || !slices.Equal(a.Ways[way][0], b.Ways[way][0]) || !slices.Equal(a.Ways[way][1], b.Ways[way][1]) {
			return false
		}
	}
	return a.Use == b.Use
}

func copyOfLink(l impl.Link) impl.Link {
	for end := range 2 {
		l.Ends[end].Out = slices.Clone(l.Ends[end].Out)
		l.Ends[end].In = slices.Clone(l.Ends[end].In)
		for way := range 2 {
			l.Ways[way][end] = slices.Clone(l.Ways[way][end])
		}
	}
	return l
}

// mirrored has the ends change places, and otherWay the ways: what holds of a
// link holds of these. Both are copies.
func mirrored(l impl.Link) impl.Link {
	l = copyOfLink(l)
	l.Ends[0], l.Ends[1] = l.Ends[1], l.Ends[0]
	for way := range 2 {
		l.Ways[way][0], l.Ways[way][1] = l.Ways[way][1], l.Ways[way][0]
	}
	return l
}

func otherWay(l impl.Link) impl.Link {
	l = copyOfLink(l)
	l.Ways[0], l.Ways[1] = l.Ways[1], l.Ways[0]
	l.Use = 1 - l.Use
	return l
}

func changedLink(text string, change func(l *impl.Link)) impl.Link {
	l := linkOf(text)
	change(&l)
	return l
}

// manyTexts are so many, no two alike.
func manyTexts(n int) []string {
	var list []string
	for i := range n {
		list = append(list, fmt.Sprintf("text %d", i+1))
	}
	return list
}

// withOut has end 0 tell so many texts, of which some are sent, taken and
// acknowledged.
func withOut(n int, sent int, taken int, acked int) impl.Link {
	var l impl.Link
	l.Ends[0] = impl.End{Out: manyTexts(n), Sent: sent, Acked: acked}
	l.Ends[1] = impl.End{In: manyTexts(taken), Taken: taken}
	return l
}

// withUnits is the link of a text with so many Units that only acknowledge
// more on the used way to end 1.
func withUnits(text string, n int) impl.Link {
	l := linkOf(text)
	l.Ways[l.Use][1] = append(l.Ways[l.Use][1], make([]impl.Unit, n)...)
	return l
}

const busyLink = "abcd:3.1.1 xy:2.0.2 1<2/1 1<3/0 1<0/1 0<1/2 0<2/1 ~1<1/0 ~0<0/2"

// wrongEnds have one fault each at an end, by what it is.
func wrongEnds() map[string]impl.Link {
	return map[string]impl.Link{
		"one message too many":           withOut(impl.MaxUnits+1, 0, 0, 0),
		"one too many, all brought":      withOut(impl.MaxUnits+1, impl.MaxUnits+1, impl.MaxUnits+1, impl.MaxUnits+1),
		"far too many messages":          withOut(1000, 0, 0, 0),
		"a text too long":                changedLink("-:0.0.0 -:0.0.0", func(l *impl.Link) { l.Ends[0].Out = []string{strings.Repeat("t", impl.MaxText+1)} }),
		"the last text too long":         changedLink(busyLink, func(l *impl.Link) { l.Ends[0].Out[3] = strings.Repeat("t", impl.MaxText+1) }),
		"too long by its runes' bytes":   changedLink(busyLink, func(l *impl.Link) { l.Ends[0].Out[3] = strings.Repeat("é", 31) }),
		"Sent -1":                        changedLink("ab:0.0.0 -:0.0.0", func(l *impl.Link) { l.Ends[0].Sent = -1 }),
		"Sent and Acked -1":              changedLink("ab:0.0.0 -:0.0.0", func(l *impl.Link) { l.Ends[0].Sent, l.Ends[0].Acked = -1, -1 }),
		"Acked -1":                       changedLink("ab:1.0.0 -:0.0.0", func(l *impl.Link) { l.Ends[0].Acked = -1 }),
		"Acked far below":                changedLink("ab:1.0.0 -:0.0.0", func(l *impl.Link) { l.Ends[0].Acked = math.MinInt }),
		"Sent and Acked far below":       changedLink("ab:1.0.0 -:0.0.0", func(l *impl.Link) { l.Ends[0].Sent, l.Ends[0].Acked = math.MinInt, math.MinInt }),
		"Sent far away":                  changedLink(busyLink, func(l *impl.Link) { l.Ends[0].Sent = math.MaxInt }),
		"Acked far away":                 changedLink(busyLink, func(l *impl.Link) { l.Ends[0].Acked = math.MaxInt }),
		"both far away":                  changedLink(busyLink, func(l *impl.Link) { l.Ends[0].Sent, l.Ends[0].Acked = math.MaxInt, math.MaxInt }),
		"Sent one more than Out":         changedLink("ab:2.0.0 -:0.0.0", func(l *impl.Link) { l.Ends[0].Sent = 3 }),
		"Sent 1 of none":                 changedLink("-:0.0.0 -:0.0.0", func(l *impl.Link) { l.Ends[0].Sent = 1 }),
		"Sent 101 of 100":                withOut(impl.MaxUnits, impl.MaxUnits+1, impl.MaxUnits, impl.MaxUnits),
		"Acked one more than Sent":       changedLink("ab:1.1.0 -:0.0.1", func(l *impl.Link) { l.Ends[0].Acked = 2 }),
		"Acked 1 of none":                changedLink("-:0.0.0 -:0.0.0", func(l *impl.Link) { l.Ends[0].Acked = 1 }),
		"one past the window":            withOut(20, impl.Window+1, 0, 0),
		"one past the window, taken":     withOut(20, impl.Window+1, impl.Window+1, 0),
		"one past the window of later":   withOut(20, impl.Window+6, 7, 5),
		"far past the window":            withOut(impl.MaxUnits, impl.MaxUnits, impl.MaxUnits, 0),
		"Acked more than Taken":          linkOf("ab:2.1.0 -:0.0.0"),
		"Acked one more than Taken":      linkOf("abcd:4.3.0 -:0.0.2"),
		"taken and not sent":             linkOf("ab:0.0.0 -:0.0.1"),
		"one more taken than sent":       linkOf("ab:1.1.0 -:0.0.2"),
		"Taken -1":                       changedLink("ab:2.0.0 -:0.0.0", func(l *impl.Link) { l.Ends[1].Taken = -1 }),
		"Taken 1, In empty":              changedLink("ab:2.0.0 -:0.0.0", func(l *impl.Link) { l.Ends[1].Taken = 1 }),
		"Taken 0, In of one":             changedLink("ab:2.0.0 -:0.0.1", func(l *impl.Link) { l.Ends[1].Taken = 0 }),
		"Taken one less than In":         changedLink("ab:2.0.0 -:0.0.2", func(l *impl.Link) { l.Ends[1].Taken = 1 }),
		"Taken far away":                 changedLink(busyLink, func(l *impl.Link) { l.Ends[1].Taken = math.MaxInt }),
		"Taken far below":                changedLink("ab:2.0.0 -:0.0.0", func(l *impl.Link) { l.Ends[1].Taken = math.MinInt }),
		"In is another text":             changedLink("ab:2.0.0 -:0.0.1", func(l *impl.Link) { l.Ends[1].In[0] = "b" }),
		"In is a longer text":            changedLink("ab:2.0.0 -:0.0.1", func(l *impl.Link) { l.Ends[1].In[0] = "ab" }),
		"In is an empty text":            changedLink("ab:2.0.0 -:0.0.1", func(l *impl.Link) { l.Ends[1].In[0] = "" }),
		"the last of In is another text": changedLink("abc:3.0.0 -:0.0.3", func(l *impl.Link) { l.Ends[1].In[2] = "b" }),
		"In in another order":            changedLink("ab:2.0.0 -:0.0.2", func(l *impl.Link) { slices.Reverse(l.Ends[1].In) }),
		"In without the first":           changedLink("ab:2.0.0 -:0.0.1", func(l *impl.Link) { l.Ends[1].In = []string{"b"} }),
		"In longer than Out":             changedLink("ab:2.2.0 -:0.0.2", func(l *impl.Link) { l.Ends[1].In, l.Ends[1].Taken = []string{"a", "b", "c"}, 3 }),
		"In of its own Out":              changedLink("ab:2.0.0 x:1.0.0", func(l *impl.Link) { l.Ends[0].In, l.Ends[0].Taken = []string{"a"}, 1 }),
	}
}

// wrongUnits have one fault each on a list of the used way, by what it is.
func wrongUnits() map[string]impl.Link {
	with := func(unit impl.Unit) impl.Link {
		return changedLink(busyLink, func(l *impl.Link) { l.Ways[0][1][1] = unit })
	}
	return map[string]impl.Link{
		"one Unit too many":              withUnits("ab:2.0.0 x:1.0.1", impl.MaxUnits+1),
		"one too many with messages":     withUnits(busyLink, impl.MaxUnits-2),
		"far too many Units":             withUnits("ab:2.0.0 x:1.0.1", 5000),
		"a Seq 0 with Data":              with(impl.Unit{Data: "a"}),
		"a Seq 0 with the last message":  with(impl.Unit{Data: "d"}),
		"Data of another message":        with(impl.Unit{Seq: 2, Data: "a"}),
		"Data of the other end":          with(impl.Unit{Seq: 2, Data: "y"}),
		"no Data":                        with(impl.Unit{Seq: 2}),
		"Data and more":                  with(impl.Unit{Seq: 2, Data: "bb"}),
		"a Seq past Sent":                with(impl.Unit{Seq: 4, Data: "d"}),
		"a Seq past Sent without Data":   with(impl.Unit{Seq: 4}),
		"a Seq past Out":                 with(impl.Unit{Seq: 5}),
		"a Seq past MaxUnits":            with(impl.Unit{Seq: impl.MaxUnits + 1}),
		"a Seq -1":                       with(impl.Unit{Seq: -1}),
		"a Seq far below":                with(impl.Unit{Seq: math.MinInt}),
		"a Seq far away":                 with(impl.Unit{Seq: math.MaxInt}),
		"an Ack -1":                      with(impl.Unit{Ack: -1, Seq: 2, Data: "b"}),
		"an Ack far below":               with(impl.Unit{Ack: math.MinInt}),
		"an Ack past Taken":              with(impl.Unit{Ack: 2, Seq: 2, Data: "b"}),
		"an Ack past Taken that is more": with(impl.Unit{Ack: 2}),
		"an Ack past MaxUnits":           with(impl.Unit{Ack: impl.MaxUnits + 1}),
		"an Ack far away":                with(impl.Unit{Ack: math.MaxInt}),
		"Units to who sent nothing":      changedLink("ab:0.0.0 -:0.0.0", func(l *impl.Link) { l.Ways[0][1] = []impl.Unit{{Seq: 1, Data: "a"}} }),
		"the first Unit of some":         changedLink(busyLink, func(l *impl.Link) { l.Ways[0][1][0].Data = "z" }),
		"the last Unit of some":          changedLink(busyLink, func(l *impl.Link) { l.Ways[0][1][2].Ack = 2 }),
	}
}

// wrongLinks are all these, at either end and on either way, used or not.
func wrongLinks() map[string]impl.Link {
	wrong := map[string]impl.Link{}
	for why, l := range wrongEnds() {
		wrong[why] = l
		wrong[why+", the other end"] = mirrored(l)
		wrong[why+", on way 1"] = otherWay(l)
	}
	for why, l := range wrongUnits() {
		unused := copyOfLink(l)
		unused.Use = 1
		wrong[why] = l
		wrong[why+", to the other end"] = mirrored(l)
		wrong[why+", on way 1"] = otherWay(l)
		wrong[why+", to the other end on way 1"] = mirrored(otherWay(l))
		wrong[why+", on the unused way 0"] = unused
		wrong[why+", on the unused way 1"] = otherWay(unused)
		wrong[why+", to the other end on the unused way 0"] = mirrored(unused)
		wrong[why+", to the other end on the unused way 1"] = mirrored(otherWay(unused))
	}
	for _, use := range []int{-1, 2, math.MinInt, math.MaxInt} {
		wrong[fmt.Sprintf("Use %d", use)] = impl.Link{Use: use}
		wrong[fmt.Sprintf("Use %d, busy", use)] = changedLink(busyLink, func(l *impl.Link) { l.Use = use })
	}
	return wrong
}

// rightLinks stand at the limits, or are ordinary ones.
func rightLinks() map[string]impl.Link {
	long := strings.Repeat("t", impl.MaxText)
	return map[string]impl.Link{
		"the zero value":             {},
		"empty lists":                {Ends: [2]impl.End{{Out: []string{}, In: []string{}}, {}}, Ways: [2][2][]impl.Unit{{{}, {}}, {{}, nil}}},
		"busy":                       linkOf(busyLink),
		"MaxUnits messages":          withOut(impl.MaxUnits, 0, 0, 0),
		"MaxUnits messages brought":  withOut(impl.MaxUnits, impl.MaxUnits, impl.MaxUnits, impl.MaxUnits),
		"MaxUnits with the last out": withOut(impl.MaxUnits, impl.MaxUnits, impl.MaxUnits-impl.Window, impl.MaxUnits-impl.Window),
		"a text of MaxText bytes":    changedLink("-:0.0.0 -:0.0.0", func(l *impl.Link) { l.Ends[0].Out = []string{long} }),
		"MaxText bytes of runes":     changedLink("-:0.0.0 -:0.0.0", func(l *impl.Link) { l.Ends[0].Out = []string{strings.Repeat("é", 30)} }),
		"MaxText bytes on the way":   changedLink("-:0.0.0 -:0.0.0", func(l *impl.Link) { bringLong(l, long) }),
		"bytes that are no runes":    changedLink("-:0.0.0 -:0.0.0", func(l *impl.Link) { bringLong(l, "\xff\x00\xfe") }),
		"empty texts":                linkOf("...:3.1.0 .:1.0.2 1<1/0 1<2/0 0<1/2 0<0/0"),
		"texts that are alike":       linkOf("aaa:3.1.0 a:1.0.2 1<1/0 1<2/0 0<1/2 ~0<1/1"),
		"the window full":            withOut(20, impl.Window, 0, 0),
		"the window full, taken":     withOut(20, impl.Window, impl.Window, 0),
		"the window full later":      withOut(20, impl.Window+5, 7, 5),
		"sent and not taken":         linkOf("ab:2.0.0 xy:2.0.0"),
		"taken, not acknowledged":    linkOf("ab:2.0.2 xy:2.0.2"),
		"all acknowledged":           linkOf("ab:2.2.2 xy:2.2.2"),
		"MaxUnits Units":             withUnits("ab:2.0.0 x:1.0.1", impl.MaxUnits),
		"MaxUnits Units some full":   withUnits(busyLink, impl.MaxUnits-3),
		"Units out of order, twice":  linkOf("abc:3.0.1 x:1.0.1 1<3/0 1<1/1 1<3/1 1<2/0 1<1/0 1<0/1"),
		"Units of what is brought":   linkOf("abc:3.3.1 x:1.1.3 1<1/0 1<3/1 0<1/0 0<1/3"),
		"Units on the way 1 alone":   linkOf("abc:3.0.1 x:1.0.1 ~1<3/0 ~1<1/1 ~0<1/1"),
		"way 1 is used":              linkOf(busyLink + " way1"),
	}
}

// bringLong has end 0 send a text that is on both ways, and taken.
func bringLong(l *impl.Link, text string) {
	unit := impl.Unit{Seq: 1, Data: text}
	l.Ends[0] = impl.End{Out: []string{text}, Sent: 1}
	l.Ends[1] = impl.End{In: []string{text}, Taken: 1}
	l.Ways = [2][2][]impl.Unit{{nil, {unit}}, {nil, {unit}}}
}

// P10, P21: links that are right and that are not, at either end and on either
// way.
func TestLinkOk(t *testing.T) {
	for why, l := range rightLinks() {
		for _, same := range []impl.Link{l, mirrored(l), otherWay(l), mirrored(otherWay(l))} {
			if !impl.LinkOk(same) {
				t.Errorf("%s: %v is not ok", why, same)
			}
		}
	}
	for why, l := range wrongLinks() {
		if impl.LinkOk(l) {
			t.Errorf("%s: %v is ok", why, l)
		}
	}
}

// linkIsRight is LinkOk told a second time: as pairs of which the second is to
// be no less, as texts of which one begins the other, and as a table of the
// messages that may be on the way. It is for small numbers.
func linkIsRight(l impl.Link) bool {
	if l.Use != 0 && l.Use != 1 {
		return false
	}
	for e := range 2 {
		end, other := l.Ends[e], l.Ends[1-e]
		pairs := [][2]int{{len(end.Out), 100}, {0, end.Acked}, {end.Acked, end.Sent}, {end.Sent, len(end.Out)}, {end.Sent, end.Acked + 8},
			{end.Taken, other.Sent}, {end.Taken, len(end.In)}, {len(end.In), end.Taken}, {end.Acked, other.Taken}, {len(l.Ways[0][e]), 100}, {len(l.Ways[1][e]), 100}}
		for _, text := range end.Out {
			pairs = append(pairs, [2]int{len(text), 60})
		}
		messages := map[int]string{0: ""}
		for i, text := range other.Out {
			if i < other.Sent {
				messages[i+1] = text
			}
		}
		for _, unit := range slices.Concat(l.Ways[0][e], l.Ways[1][e]) {
			pairs = append(pairs, [2]int{0, unit.Ack}, [2]int{unit.Ack, other.Taken})
			if text, there := messages[unit.Seq]; !there || text != unit.Data {
				return false
			}
		}
		if slices.ContainsFunc(pairs, func(pair [2]int) bool { return pair[0] > pair[1] }) || !strings.HasPrefix(inLines(other.Out), inLines(end.In)) {
			return false
		}
	}
	return true
}

// inLines is for texts without line ends.
func inLines(texts []string) string {
	var all strings.Builder
	for _, text := range texts {
		all.WriteString(text + "\n")
	}
	return all.String()
}

// P10: each Sent, Acked and Taken of both ends around their ranges, with In as
// it is to be and not.
func TestLinkNumbers(t *testing.T) {
	outs := [][]string{nil, {"a"}, {"a", "b"}, {"b", "a"}}
	ins := [][]string{nil, {"a"}, {"a", "b"}, {"b"}}
	right := 0
	for _, pair := range [][2]int{{0, 0}, {1, 0}, {2, 0}, {2, 1}, {3, 1}, {2, 2}} {
		for n := range 5 * 5 * 5 * 5 * 4 * 4 {
			var l impl.Link
			for end := range 2 {
				l.Ends[end].Out = outs[pair[end]]
				l.Ends[end].Sent, n = n%5-1, n/5
				l.Ends[end].Acked, n = n%5-1, n/5
				l.Ends[end].In, n = ins[n%4], n/4
			}
			for _, less := range []int{0, 1} {
				l.Ends[0].Taken, l.Ends[1].Taken = len(l.Ends[0].In)-less, len(l.Ends[1].In)
				want := linkIsRight(l)
				if got := impl.LinkOk(l); got != want {
					t.Fatalf("%v: %v", l, got)
				}
				if want {
					right++
				}
			}
		}
	}
	if right < 50 {
		t.Errorf("only %d are right", right)
	}
}

// P10: a Unit by its Ack, its Seq and its Data, on each way to each end.
func TestUnitsOfLink(t *testing.T) {
	texts := []string{"", "a", "b", "c", "d", "x", "y", "xy"}
	// By the end that it goes to: the messages that were sent, and what was taken.
	sent := [2]string{"xy", "abc"}
	taken := [2]int{2, 1}
	for n := range 2 * 2 * 8 * 10 * 8 {
		way, to, n := n%2, n/2%2, n/4
		unit := impl.Unit{Ack: n%8 - 2, Seq: n/8%10 - 3, Data: texts[n/80]}
		l := linkOf(busyLink)
		l.Ways[way][to] = slices.Insert(l.Ways[way][to], 1, unit)
		want := unit.Ack >= 0 && unit.Ack <= taken[to] && unit.Seq >= 0 && unit.Seq <= len(sent[to])
		if want && unit.Seq == 0 {
			want = unit.Data == ""
		} else if want {
			want = unit.Data == sent[to][unit.Seq-1:unit.Seq]
		}
		if got := impl.LinkOk(l); got != want || linkIsRight(l) != want {
			t.Errorf("%+v to %d on way %d: %v", unit, to, way, got)
		}
	}
}

// P10, P21: each limit at the ends of its range, and one past it.
func TestLinkLimits(t *testing.T) {
	for n := range impl.MaxUnits + 3 {
		checkLimit(t, "messages", n, withOut(n, 0, 0, 0), n <= 100)
		checkLimit(t, "messages that are brought", n, withOut(n, n, n, n), n <= 100)
		checkLimit(t, "Units", n, withUnits("ab:2.0.0 x:1.0.1", n), n <= 100)
		checkLimit(t, "Sent of 60", n, withOut(60, n, min(n, 60), min(n, 60)), n <= 60)
		checkLimit(t, "Sent with 20 acknowledged", n, withOut(100, n, max(n, 20), 20), n >= 20 && n <= 28)
		checkLimit(t, "Taken of 50", n, withOut(100, 50, n, min(n, 44)), n >= 42 && n <= 50)
		checkLimit(t, "Acked of 50", n, withOut(100, 50, 47, n), n >= 42 && n <= 47)
		l := withOut(1, 0, 0, 0)
		l.Ends[0].Out[0] = strings.Repeat("t", n)
		checkLimit(t, "bytes of a text", n, l, n <= 60)
	}
}

func checkLimit(t *testing.T, what string, n int, l impl.Link, want bool) {
	t.Helper()
	for _, same := range []impl.Link{l, mirrored(l), otherWay(l), mirrored(otherWay(l))} {
		if got := impl.LinkOk(same); got != want {
			t.Errorf("%d %s: %v", n, what, got)
		}
	}
}
