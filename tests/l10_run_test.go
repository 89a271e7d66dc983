package tests

import (
	"fmt"
	"math"
	"runtime"
	"slices"
	"strings"
	"sync"
	"testing"

	"loop.example/g00052/impl"
)

// drainedByOps tells Drain a second time, op by op, and how many times it went
// round. It is for links that are right.
func drainedByOps(l impl.Link) (impl.Link, bool, int) {
	all := func() bool { return l.Ends[0].Acked == len(l.Ends[0].Out) && l.Ends[1].Acked == len(l.Ends[1].Out) }
	do := func(kind int, end int) bool {
		after, ok := impl.DoLink(l, impl.LinkOp{Kind: kind, End: end})
		l = after
		return ok
	}
	times := 0
	for ; times < 100 && !all(); times++ {
		for end := range 2 {
			for do(impl.LinkSend, end) {
			}
			do(impl.LinkAgain, end)
		}
		for end := range 2 {
			for do(impl.LinkCarry, end) {
			}
		}
	}
	return l, all(), times
}

// checkDrained asks for what the ops lead to, and for all that was told. It
// tells how many times that took.
func checkDrained(t *testing.T, l impl.Link) int {
	t.Helper()
	got, ok := impl.Drain(l)
	want, wantOk, times := drainedByOps(l)
	if !ok || !wantOk || !sameLink(got, want) || !impl.LinkOk(got) {
		t.Fatalf("%v is drained to %v %v, not %v %v", l, got, ok, want, wantOk)
	}
	for end := range 2 {
		out := l.Ends[end].Out
		if !slices.Equal(got.Ends[end].Out, out) || !slices.Equal(got.Ends[1-end].In, out) || got.Ends[end].Acked != len(out) {
			t.Fatalf("%v is drained to %v", l, got)
		}
	}
	return times
}

// P10: what Drain leaves behind.
func TestDrain(t *testing.T) {
	cases := []struct {
		link string
		want string
		why  string
	}{
		{"-:0.0.0 -:0.0.0", "-:0.0.0 -:0.0.0", "nothing told"},
		{"-:0.0.0 -:0.0.0 way1", "-:0.0.0 -:0.0.0 way1", "nothing told, way 1"},
		{"ab:2.2.1 x:1.1.2", "ab:2.2.1 x:1.1.2", "all brought"},
		{"ab:2.2.1 x:1.1.2 1<2/1 0<0/2 ~1<1/0 ~0<1/1", "ab:2.2.1 x:1.1.2 1<2/1 0<0/2 ~1<1/0 ~0<1/1", "all brought: the Units stay"},
		{"a:0.0.0 -:0.0.0", "a:1.1.0 -:0.0.1", "one message"},
		{"-:0.0.0 x:0.0.0", "-:0.0.1 x:1.1.0", "one at end 1"},
		{".:0.0.0 -:0.0.0", ".:1.1.0 -:0.0.1", "an empty one"},
		{"a:0.0.0 x:0.0.0 way1", "a:1.1.1 x:1.1.1 way1", "one at each end, way 1"},
		{"abc:1.0.1 xy:2.1.1", "abc:3.3.2 xy:2.2.3", "some sent and lost"},
		{"ab:2.0.0 -:0.0.2", "ab:2.2.0 -:0.0.2", "brought, not acknowledged"},
		{"ab:2.0.0 -:0.0.2 0<0/2", "ab:2.2.0 -:0.0.2", "the acknowledgement is on the way"},
		{"a:1.0.0 -:0.0.0 1<1/0", "a:1.1.0 -:0.0.1", "the message is on the way"},
		{"abc:3.0.0 -:0.0.0 1<3/0 1<1/0 1<1/0 1<0/0", "abc:3.3.0 -:0.0.3", "out of order on the way"},
		{"a:1.0.0 -:0.0.0 ~1<1/0", "a:1.1.0 -:0.0.1 ~1<1/0", "what is on the other way stays there"},
		{busyLink, "abcd:4.4.2 xy:2.2.4 ~1<1/0 ~0<0/2", "Units on both"},
		{busyLink + " way1", "abcd:4.4.2 xy:2.2.4 ~1<1/0 ~0<0/2 way1", "Units on both, way 1"},
		{"abcdefghi:0.0.0 -:0.0.0", "abcdefghi:9.9.0 -:0.0.9", "one more than a window"},
		{"abcdefghijklmnopqrst:8.0.0 -:0.0.8", "abcdefghijklmnopqrst:20.20.0 -:0.0.20", "more than two windows, the first one full"},
		{"abcdefghijklmnopqrst:0.0.0 ABCDEFGHIJKLMNOPQ:8.0.0", "abcdefghijklmnopqrst:20.20.17 ABCDEFGHIJKLMNOPQ:17.17.20", "at both ends"},
		{"a:1.1.0 xy:0.0.1", "a:1.1.2 xy:2.2.1", "one end alone has something left"},
	}
	for _, c := range cases {
		l, want := linkOf(c.link), linkOf(c.want)
		if got, ok := impl.Drain(l); !ok || !sameLink(got, want) {
			t.Errorf("%s (%s): %v %v", c.link, c.why, got, ok)
		}
		if got, ok := impl.Drain(mirrored(l)); !ok || !sameLink(got, mirrored(want)) {
			t.Errorf("%s (%s), the other end: %v %v", c.link, c.why, got, ok)
		}
		checkDrained(t, l)
	}
	for why, l := range rightLinks() {
		if got, ok := impl.Drain(l); !ok || !impl.LinkOk(got) {
			t.Errorf("%s: %v %v", why, got, ok)
		}
	}
	for why, l := range wrongLinks() {
		if got, ok := impl.Drain(l); ok || !sameLink(got, l) {
			t.Errorf("%s: %v %v", why, got, ok)
		}
	}
}

// P10, P21: as much as a link may have: MaxUnits messages at both ends, and
// full lists, of messages or of what only acknowledges. A hundred times are
// never needed, as two bring a window, and one more empties a full list.
func TestDrainOfTheMost(t *testing.T) {
	most := 0
	for _, sent := range []int{0, 1, impl.Window} {
		for _, taken := range []int{0, sent} {
			for _, units := range []int{0, 85, 92, 93, 99, impl.MaxUnits} {
				l := withOut(impl.MaxUnits, sent, taken, 0)
				l.Ends[1].Out, l.Ends[1].Sent = manyTexts(impl.MaxUnits), sent
				l.Ends[0].In, l.Ends[0].Taken = manyTexts(taken), taken
				for end := range 2 {
					l.Ways[0][end] = make([]impl.Unit, units)
					l.Ways[1][end] = make([]impl.Unit, impl.MaxUnits-end)
				}
				for _, same := range []impl.Link{l, otherWay(l)} {
					most = max(most, checkDrained(t, same))
				}
				for i := range units {
					if sent > 0 {
						l.Ways[0][1][i] = impl.Unit{Seq: sent - i%sent, Data: l.Ends[0].Out[sent-i%sent-1], Ack: i % (taken + 1)}
					}
				}
				most = max(most, checkDrained(t, l))
			}
		}
	}
	if most != 27 {
		t.Errorf("%d times", most)
	}
}

// drawLink draws one that is right, whether or not ops could lead to it: older
// Units behind later ones, and some on the way that is not used.
func drawLink(r *drawn, most int, units int) impl.Link {
	var l impl.Link
	l.Use = r.below(2)
	for end := range 2 {
		for range drawSize(r, most) {
			l.Ends[end].Out = append(l.Ends[end].Out, drawText(r))
		}
	}
	for end := range 2 {
		from, to := &l.Ends[end], &l.Ends[1-end]
		from.Acked = r.below(len(from.Out) + 1)
		from.Sent = from.Acked + r.below(min(len(from.Out)-from.Acked, impl.Window)+1)
		to.Taken = from.Acked + r.below(from.Sent-from.Acked+1)
		to.In = slices.Clone(from.Out[:to.Taken])
	}
	for way := range 2 {
		for end := range 2 {
			from := l.Ends[1-end]
			for range drawSize(r, units) {
				unit := impl.Unit{Ack: from.Taken - r.below(min(from.Taken, 9)+1), Seq: max(from.Sent-r.below(10), 0)}
				if unit.Seq > 0 {
					unit.Data = from.Out[unit.Seq-1]
				}
				l.Ways[way][end] = append(l.Ways[way][end], unit)
			}
		}
	}
	return l
}

// drawSize draws the most more often than others, as that is where some ops may
// not be.
func drawSize(r *drawn, most int) int {
	if r.below(4) == 0 {
		return most
	}
	return r.below(most + 1)
}

// drawText draws few texts, so that some are alike.
func drawText(r *drawn) string { return strings.Repeat(string(rune('a'+r.below(3))), r.below(4)) }

func drawLinkOp(r *drawn) impl.LinkOp {
	op := impl.LinkOp{Kind: impl.LinkTell + r.below(5), End: r.below(2)}
	if op.Kind == impl.LinkTell {
		op.Text = drawText(r)
	}
	if r.below(25) == 0 {
		return impl.LinkOp{Kind: impl.LinkOver}
	}
	return op
}

// P10: drawn links of all sizes, each op against the second telling, and each
// drained.
func TestLinksDrawn(t *testing.T) {
	r := drawn(10)
	told := map[string]int{}
	sizes := []int{0, 1, 2, 5, 9, 20, 50, 93, 99, impl.MaxUnits}
	for range 1200 {
		l := drawLink(&r, sizes[r.below(10)], sizes[r.below(10)])
		if !impl.LinkOk(l) || !linkIsRight(l) {
			t.Fatalf("%v is not ok", l)
		}
		for range 12 {
			op := drawLinkOp(&r)
			_, ok := checkLinkOp(t, l, op)
			told[fmt.Sprint(linkOpNames()[op.Kind], " ", ok)]++
		}
		checkDrained(t, l)
	}
	for _, what := range []string{"tell true", "tell false", "send true", "send false", "again true", "again false", "carry true", "carry false", "lose true", "lose false", "over true"} {
		if told[what] < 15 {
			t.Errorf("%s: only %d were drawn", what, told[what])
		}
	}
}

// P10: one number or text of a drawn link that is changed, against the second
// telling of LinkOk.
func TestLinksDrawnAndChanged(t *testing.T) {
	r := drawn(1010)
	told := map[bool]int{}
	for round := range 20000 {
		l := drawLink(&r, round%20, round%5)
		end, by := &l.Ends[r.below(2)], 1+r.below(2)
		by *= 1 - 2*r.below(2)
		list := l.Ways[r.below(2)][r.below(2)]
		switch kind := r.below(8); {
		case kind == 0:
			end.Sent += by
		case kind == 1:
			end.Acked += by
		case kind == 2:
			end.Taken += by
		case kind == 3 && len(end.In) > 0:
			end.In[r.below(len(end.In))] = drawText(&r)
		case kind == 4 && len(end.In) > 0:
			end.In = end.In[1:]
			end.Taken--
		case kind == 5 && len(list) > 0:
			list[r.below(len(list))].Ack += by
		case kind == 6 && len(list) > 0:
			list[r.below(len(list))].Seq += by
		case len(list) > 0:
			list[r.below(len(list))].Data = drawText(&r)
		}
		want := linkIsRight(l)
		told[want]++
		if got := impl.LinkOk(l); got != want {
			t.Fatalf("%v: %v", l, got)
		}
		if got, ok := impl.Drain(l); ok != want || !want && !sameLink(got, l) {
			t.Fatalf("%v: drained %v", l, ok)
		}
	}
	if told[true] < 1000 || told[false] < 1000 {
		t.Errorf("right and not: %v", told)
	}
}

// linkBook keeps, beside a link at work, what was told at each end.
type linkBook struct {
	told [2][]string
	lost int
	over int
}

func (book *linkBook) note(op impl.LinkOp) {
	switch op.Kind {
	case impl.LinkTell:
		book.told[op.End] = append(book.told[op.End], op.Text)
	case impl.LinkLose:
		book.lost++
	case impl.LinkOver:
		book.over++
	}
}

// check asks that what was taken is the beginning of what was told, and
// drained all of it.
func (book *linkBook) check(t *testing.T, l impl.Link, drain bool) {
	t.Helper()
	if !impl.LinkOk(l) {
		t.Fatalf("%v is not ok", l)
	}
	drained := l
	if drain {
		after, ok := impl.Drain(l)
		if !ok || !impl.LinkOk(after) || after.Use != l.Use {
			t.Fatalf("%v is drained to %v, %v", l, after, ok)
		}
		drained = after
	}
	for end := range 2 {
		told, taken := book.told[end], l.Ends[1-end].In
		if len(taken) > len(told) || !slices.Equal(taken, told[:len(taken)]) {
			t.Fatalf("%q was told, %q taken", told, taken)
		}
		if drain && !slices.Equal(drained.Ends[1-end].In, told) {
			t.Fatalf("%q was told, %q taken in the end", told, drained.Ends[1-end].In)
		}
	}
}

// P10: over long drawn runs what is taken is the beginning of what was told,
// and drained it is all of it, whatever was lost and however often it was
// carried over to the other way.
func TestLinkRunsDrawn(t *testing.T) {
	r := drawn(100)
	lost, over, most, taken := 0, 0, 0, 0
	for round := range 80 {
		var l impl.Link
		var book linkBook
		for step := range 500 {
			op := drawLinkOp(&r)
			// Some runs carry more, some put more on the way.
			if r.below(4) < round%4 {
				op = impl.LinkOp{Kind: impl.LinkSend + round/4%3, End: r.below(2)}
			}
			after, ok := checkLinkOp(t, l, op)
			if ok {
				book.note(op)
			}
			l = after
			book.check(t, l, step%10 == 0)
			if r.below(200) == 0 {
				l, _ = impl.Drain(l)
				book.check(t, l, true)
			}
			most = max(most, len(l.Ways[0][0]), len(l.Ways[1][1]))
		}
		lost, over, taken = lost+book.lost, over+book.over, taken+l.Ends[0].Taken
	}
	if lost < 1000 || over < 500 || most != impl.MaxUnits || taken < 1000 {
		t.Errorf("%d lost, %d times over, at most %d on a way, %d taken: too dull", lost, over, most, taken)
	}
}

// P10: a message on one way comes over the other one.
func TestLinkOverAndOver(t *testing.T) {
	l := impl.RunLink(impl.Link{}, linkOpsOf("tell 0 a, tell 0 b, tell 1 c, send 0, send 0, send 1, carry 1, over 0, carry 1, again 0, again 1, lose 1"))
	if !sameLink(l, linkOf("ab:2.0.0 c:1.0.1 1<2/0 0<1/1 way1")) {
		t.Fatalf("carried over: %v", l)
	}
	for range 50 {
		l = impl.RunLink(l, linkOpsOf("over 0, again 0, again 1, over 0"))
		if !sameLink(l, linkOf("ab:2.0.0 c:1.0.1 way1")) {
			t.Fatalf("carried over and back: %v", l)
		}
	}
	if got, ok := impl.Drain(l); !ok || !sameLink(got, linkOf("ab:2.2.1 c:1.1.2 way1")) {
		t.Errorf("drained: %v %v", got, ok)
	}
}

// P10: all ops one after the other; those that may not be change nothing.
func TestRunLink(t *testing.T) {
	cases := []struct {
		link string
		ops  string
		want string
		why  string
	}{
		{"-:0.0.0 -:0.0.0", "tell 0 a", "a:0.0.0 -:0.0.0", "one op"},
		{"-:0.0.0 -:0.0.0", "tell 0 a, send 0, carry 1, again 1, carry 0", "a:1.1.0 -:0.0.1", "a message and its acknowledgement"},
		{"-:0.0.0 -:0.0.0", "send 0, carry 1, lose 0, tell 2 t, - 0", "-:0.0.0 -:0.0.0", "none may be"},
		{"-:0.0.0 -:0.0.0", "carry 1, tell 0 a, - 0, send 0, send 0, over 1, carry 0, carry 1, carry 1", "a:1.0.0 -:0.0.1", "some may not be"},
		{busyLink, "lose 1, carry 1, carry 1, carry 0, carry 0, carry 0", "abcd:3.2.2 xy:2.1.3 ~1<1/0 ~0<0/2", "all Units on the way"},
		{"abcdefghijk:0.0.0 -:0.0.0", "send 0, send 0, send 0, send 0, send 0, send 0, send 0, send 0, send 0, lose 1, again 0, over 0, send 0", "abcdefghijk:8.0.0 -:0.0.0 way1", "a window that stays full"},
		{"ab:0.0.0 x:0.0.0", "send 0, send 1, carry 0, send 0, carry 1, carry 1, again 1, carry 0", "ab:2.2.1 x:1.1.2", "a message acknowledges too"},
	}
	for _, c := range cases {
		if got := impl.RunLink(linkOf(c.link), linkOpsOf(c.ops)); !sameLink(got, linkOf(c.want)) {
			t.Errorf("%s: %s, %s: %v", c.why, c.link, c.ops, got)
		}
	}
}

// P10: a run is its ops one by one.
func TestRunLinkAgainstSingleOps(t *testing.T) {
	r := drawn(1000)
	for round := range 300 {
		first := drawLink(&r, round%101, round%30)
		l := copyOfLink(first)
		var ops []impl.LinkOp
		for range round * 400 / 299 {
			op := drawLinkOp(&r)
			ops = append(ops, op)
			l, _ = impl.DoLink(l, op)
		}
		if got := impl.RunLink(first, ops); !sameLink(got, l) {
			t.Fatalf("%v, %v: %v, not %v", first, ops, got, l)
		}
	}
}

// P10, P21: no ops, 400, and one more.
func TestRunLinkLimit(t *testing.T) {
	for _, ops := range [][]impl.LinkOp{nil, {}} {
		if got := impl.RunLink(linkOf(busyLink), ops); !sameLink(got, linkOf(busyLink)) {
			t.Errorf("no ops: %v", got)
		}
	}
	var ops []impl.LinkOp
	for range 100 {
		ops = append(ops, linkOpsOf("tell 0 a, send 0, carry 1, lose 1")...)
	}
	want := withOut(0, 0, 0, 0)
	want.Ends[0] = impl.End{Out: slices.Repeat([]string{"a"}, 100), Sent: impl.Window}
	want.Ends[1] = impl.End{In: slices.Repeat([]string{"a"}, impl.Window), Taken: impl.Window}
	if got := impl.RunLink(impl.Link{}, ops); !sameLink(got, want) {
		t.Errorf("400 ops: %v", got)
	}
	ops[399] = linkOpOf("over 0")
	want.Use = 1
	if got := impl.RunLink(impl.Link{}, ops); !sameLink(got, want) {
		t.Errorf("400 ops, of which the last is seen: %v", got)
	}
	for _, more := range linkOpsOf("over 0, tell 1 t, carry 0, - 0") {
		if got := impl.RunLink(linkOf(busyLink), append(slices.Clone(ops), more)); !sameLink(got, impl.Link{}) {
			t.Errorf("401 ops: %v", got)
		}
	}
	if got := impl.RunLink(linkOf(busyLink), make([]impl.LinkOp, 5000)); !sameLink(got, impl.Link{}) {
		t.Errorf("many ops: %v", got)
	}
	refused := slices.Repeat([]impl.LinkOp{{Kind: math.MinInt}}, 400)
	if got := impl.RunLink(linkOf(busyLink), refused); !sameLink(got, linkOf(busyLink)) {
		t.Errorf("400 ops that are none: %v", got)
	}
}

// P10: a link that is not right stays as it was, but for more than 400 ops.
func TestRunLinkOfWrongLinks(t *testing.T) {
	ops := linkOpsOf("tell 0 t, send 0, again 1, carry 0, carry 1, lose 0, over 0")
	for why, l := range wrongLinks() {
		for n := range len(ops) + 1 {
			if got := impl.RunLink(l, ops[:n]); !sameLink(got, l) {
				t.Errorf("%s, %d ops: %v", why, n, got)
			}
		}
		if got := impl.RunLink(l, make([]impl.LinkOp, 401)); !sameLink(got, impl.Link{}) {
			t.Errorf("%s, 401 ops: %v", why, got)
		}
	}
}

// P10: the answer is the same however often it is asked for, on however many
// processors and by however many at once, and nobody is left at work.
func TestDrainIsTheSame(t *testing.T) {
	r := drawn(11)
	var links []impl.Link
	for n := range 20 {
		links = append(links, drawLink(&r, 5*n, 100-5*n))
	}
	before := runtime.NumGoroutine()
	first := runtime.GOMAXPROCS(0)
	defer runtime.GOMAXPROCS(first)
	for _, processors := range []int{1, 2, first} {
		runtime.GOMAXPROCS(processors)
		for _, l := range links {
			checkDrainsAlike(t, l)
		}
	}
	// One that has ended may still be counted for a moment.
	for range 100000 {
		if runtime.NumGoroutine() <= before {
			return
		}
		runtime.Gosched()
	}
	t.Errorf("%d at work ahead of it, %d behind", before, runtime.NumGoroutine())
}

func checkDrainsAlike(t *testing.T, l impl.Link) {
	t.Helper()
	want, _, _ := drainedByOps(l)
	var all sync.WaitGroup
	var same [8]bool
	for i := range same {
		all.Go(func() {
			same[i] = true
			for range 10 {
				got, ok := impl.Drain(l)
				same[i] = same[i] && ok && sameLink(got, want)
			}
		})
	}
	all.Wait()
	if same != [8]bool{true, true, true, true, true, true, true, true} {
		t.Errorf("%v: other answers: %v", l, same)
	}
}
