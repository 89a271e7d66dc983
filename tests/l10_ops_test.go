package tests

import (
	"fmt"
	"math"
	"slices"
	"strings"
	"testing"

	"loop.example/g00052/impl"
)

// An op of a link is written by its name, its end and, of tell, its text, "."
// being an empty one: "tell 0 abc", "carry 1", "over 0".

func linkOpNames() []string {
	return []string{"-", "tell", "send", "again", "carry", "lose", "over"}
}

func linkOpOf(text string) impl.LinkOp {
	words := strings.Fields(text)
	op := impl.LinkOp{Kind: slices.Index(linkOpNames(), words[0])}
	mustScan(words[1], "%d", &op.End)
	if len(words) > 2 && words[2] != "." {
		op.Text = words[2]
	}
	return op
}

func linkOpsOf(text string) []impl.LinkOp {
	var ops []impl.LinkOp
	for _, part := range strings.Split(text, ",") {
		ops = append(ops, linkOpOf(part))
	}
	return ops
}

func mirroredOp(op impl.LinkOp) impl.LinkOp {
	if op.Kind != impl.LinkOver {
		op.End = 1 - op.End
	}
	return op
}

// secondLink tells an op a second time, on a link that is right: it is done on
// a copy, which is thrown away where what came of it is not right.
func secondLink(before impl.Link, op impl.LinkOp) (impl.Link, bool) {
	l := copyOfLink(before)
	if !secondOp(&l, op) || !linkIsRight(l) {
		return before, false
	}
	return l, true
}

// secondOp is false where there is nothing to do it with.
func secondOp(l *impl.Link, op impl.LinkOp) bool {
	end, other := &l.Ends[op.End], 1-op.End
	there := &l.Ways[l.Use][other]
	put := func(seq int) { *there = append(*there, impl.Unit{Ack: end.Taken, Seq: seq, Data: end.Out[seq-1]}) }
	switch op.Kind {
	case impl.LinkTell:
		end.Out = append(end.Out, op.Text)
	case impl.LinkSend:
		if end.Sent >= len(end.Out) {
			return false
		}
		end.Sent++
		put(end.Sent)
	case impl.LinkAgain:
		for seq := range end.Out {
			if seq+1 > end.Acked && seq+1 <= end.Sent {
				put(seq + 1)
			}
		}
		if end.Acked == end.Sent {
			*there = append(*there, impl.Unit{Ack: end.Taken})
		}
	case impl.LinkCarry, impl.LinkLose:
		return secondArrival(l, op)
	case impl.LinkOver:
		*l = impl.Link{Ends: l.Ends, Use: 1 - l.Use}
	}
	return true
}

func secondArrival(l *impl.Link, op impl.LinkOp) bool {
	here, end := &l.Ways[l.Use][op.End], &l.Ends[op.End]
	if len(*here) == 0 {
		return false
	}
	unit := (*here)[0]
	*here = (*here)[1:]
	if op.Kind == impl.LinkLose {
		return true
	}
	if unit.Ack > end.Acked {
		end.Acked = unit.Ack
	}
	if unit.Seq-1 == end.Taken {
		end.In = append(end.In, unit.Data)
		end.Taken = len(end.In)
	}
	return true
}

// checkLinkOp asks for what the second telling says, and for a link that is
// right.
func checkLinkOp(t *testing.T, l impl.Link, op impl.LinkOp) (impl.Link, bool) {
	t.Helper()
	want, wantOk := secondLink(l, op)
	got, ok := impl.DoLink(l, op)
	if ok != wantOk || !sameLink(got, want) {
		t.Fatalf("%v, %v: %v %v, not %v %v", l, op, got, ok, want, wantOk)
	}
	if !impl.LinkOk(got) {
		t.Fatalf("%v, %v: %v is not ok", l, op, got)
	}
	return got, ok
}

// linkCase is a link, an op, and what comes of it; where that is empty, the op
// may not be.
type linkCase struct {
	link string
	op   string
	want string
	why  string
}

// checkLinkCases asks at either end and on either way.
func checkLinkCases(t *testing.T, cases []linkCase) {
	t.Helper()
	for _, c := range cases {
		wantOk := c.want != ""
		if !wantOk {
			c.want = c.link
		}
		l, want, op := linkOf(c.link), linkOf(c.want), linkOpOf(c.op)
		for _, turn := range []func(l impl.Link) impl.Link{copyOfLink, otherWay} {
			if got, ok := impl.DoLink(turn(l), op); ok != wantOk || !sameLink(got, turn(want)) {
				t.Errorf("%s, %s (%s): %v %v", c.link, c.op, c.why, got, ok)
			}
			if got, ok := impl.DoLink(mirrored(turn(l)), mirroredOp(op)); ok != wantOk || !sameLink(got, mirrored(turn(want))) {
				t.Errorf("%s, %s (%s), the other end: %v %v", c.link, c.op, c.why, got, ok)
			}
		}
	}
}

// P10: messages are told and sent.
func TestLinkTellAndSend(t *testing.T) {
	checkLinkCases(t, []linkCase{
		{"-:0.0.0 -:0.0.0", "tell 0 a", "a:0.0.0 -:0.0.0", "the first one"},
		{"ab:2.1.0 x:1.0.1", "tell 0 c", "abc:2.1.0 x:1.0.1", "behind the others"},
		{"ab:2.1.0 x:1.0.1", "tell 1 c", "ab:2.1.0 xc:1.0.1", "at the other end"},
		{"a:0.0.0 -:0.0.0", "tell 0 a", "aa:0.0.0 -:0.0.0", "the same once more"},
		{"a:0.0.0 -:0.0.0", "tell 0 .", "a.:0.0.0 -:0.0.0", "an empty one"},
		{busyLink, "tell 0 e", "abcde:3.1.1 xy:2.0.2 1<2/1 1<3/0 1<0/1 0<1/2 0<2/1 ~1<1/0 ~0<0/2", "what is on the way stays"},
		{"abcdefghij:8.0.0 -:0.0.0", "tell 0 k", "abcdefghijk:8.0.0 -:0.0.0", "the window plays no part"},
		{"a:0.0.0 -:0.0.0", "send 0", "a:1.0.0 -:0.0.0 1<1/0", "the first one"},
		{"abc:1.0.0 -:0.0.0 1<1/0", "send 0", "abc:2.0.0 -:0.0.0 1<1/0 1<2/0", "the next one, behind what is there"},
		{"abc:1.0.0 -:0.0.0", "send 0", "abc:2.0.0 -:0.0.0 1<2/0", "the next one, though the first was lost"},
		{"abc:1.1.2 xy:2.0.1", "send 0", "abc:2.1.2 xy:2.0.1 1<2/2", "with what it has taken"},
		{"abc:1.1.2 xy:2.1.1", "send 0", "abc:2.1.2 xy:2.1.1 1<2/2", "and not what is acknowledged"},
		{".:0.0.0 -:0.0.0", "send 0", ".:1.0.0 -:0.0.0 1<1/0", "an empty one"},
		{busyLink, "send 0", "abcd:4.1.1 xy:2.0.2 1<2/1 1<3/0 1<0/1 1<4/1 0<1/2 0<2/1 ~1<1/0 ~0<0/2", "on the used way alone"},
		{busyLink, "send 1", "", "nothing left to send, though the other end has"},
		{"-:0.0.0 -:0.0.0", "send 0", "", "nothing to send"},
		{"-:0.0.0 x:0.0.0", "send 0", "", "the other end alone has something"},
		{"ab:2.2.0 -:0.0.2", "send 0", "", "all is brought"},
		{"ab:2.0.0 -:0.0.0", "send 0", "", "all is sent"},
		{"abcdefghij:8.0.0 -:0.0.0", "send 0", "", "the window is full"},
		{"abcdefghij:8.0.0 -:0.0.8", "send 0", "", "taken, but not acknowledged"},
		{"abcdefghij:7.0.0 -:0.0.0", "send 0", "abcdefghij:8.0.0 -:0.0.0 1<8/0", "the last of the window"},
		{"abcdefghij:8.1.0 -:0.0.1", "send 0", "abcdefghij:9.1.0 -:0.0.1 1<9/0", "the window has moved"},
		{"abcdefghij:9.1.0 -:0.0.9", "send 0", "", "and is full again"},
		{"abcdefghij:9.9.0 -:0.0.9", "send 0", "abcdefghij:10.9.0 -:0.0.9 1<10/0", "the last one"},
	})
}

// P10: what is not acknowledged is put on the way again, else what was taken.
func TestLinkAgain(t *testing.T) {
	checkLinkCases(t, []linkCase{
		{"-:0.0.0 -:0.0.0", "again 0", "-:0.0.0 -:0.0.0 1<0/0", "nothing told"},
		{"ab:0.0.0 -:0.0.0", "again 0", "ab:0.0.0 -:0.0.0 1<0/0", "nothing sent"},
		{"ab:1.1.0 -:0.0.1", "again 0", "ab:1.1.0 -:0.0.1 1<0/0", "all that was sent is acknowledged"},
		{"-:0.0.2 xy:2.0.0", "again 0", "-:0.0.2 xy:2.0.0 1<0/2", "what was taken"},
		{"-:0.0.2 xy:2.1.0", "again 0", "-:0.0.2 xy:2.1.0 1<0/2", "what was taken, not what is acknowledged"},
		{"ab:1.0.0 -:0.0.0", "again 0", "ab:1.0.0 -:0.0.0 1<1/0", "one"},
		{"ab:1.0.0 -:0.0.1", "again 0", "ab:1.0.0 -:0.0.1 1<1/0", "one that was taken"},
		{"ab:1.0.0 -:0.0.0 1<1/0", "again 0", "ab:1.0.0 -:0.0.0 1<1/0 1<1/0", "one that is on the way"},
		{"abcd:3.1.2 xy:2.0.1", "again 0", "abcd:3.1.2 xy:2.0.1 1<2/2 1<3/2", "those between, with what was taken"},
		{"abcd:4.1.0 -:0.0.3", "again 0", "abcd:4.1.0 -:0.0.3 1<2/0 1<3/0 1<4/0", "from Acked on, not from what was taken"},
		{"abcdefghi:9.1.0 -:0.0.1", "again 0", "abcdefghi:9.1.0 -:0.0.1 1<2/0 1<3/0 1<4/0 1<5/0 1<6/0 1<7/0 1<8/0 1<9/0", "a whole window"},
		{"..:2.0.0 -:0.0.0", "again 0", "..:2.0.0 -:0.0.0 1<1/0 1<2/0", "empty ones"},
		{busyLink, "again 0", "abcd:3.1.1 xy:2.0.2 1<2/1 1<3/0 1<0/1 1<2/1 1<3/1 0<1/2 0<2/1 ~1<1/0 ~0<0/2", "behind what is there"},
		{busyLink, "again 1", "abcd:3.1.1 xy:2.0.2 1<2/1 1<3/0 1<0/1 0<1/2 0<2/1 0<1/2 0<2/2 ~1<1/0 ~0<0/2", "of the other end"},
	})
}

// P10: what arrives is taken in order, each once, and acknowledges.
func TestLinkCarry(t *testing.T) {
	checkLinkCases(t, []linkCase{
		{"ab:1.0.0 -:0.0.0 1<1/0", "carry 1", "ab:1.0.0 -:0.0.1", "the first message"},
		{"ab:2.0.0 -:0.0.1 1<2/0", "carry 1", "ab:2.0.0 -:0.0.2", "the next one"},
		{"ab:2.0.0 -:0.0.0 1<2/0", "carry 1", "ab:2.0.0 -:0.0.0", "one too early is not taken"},
		{"ab:2.0.0 -:0.0.0 1<2/0 1<1/0", "carry 1", "ab:2.0.0 -:0.0.0 1<1/0", "out of order: the first Unit alone"},
		{"ab:2.0.0 -:0.0.1 1<1/0", "carry 1", "ab:2.0.0 -:0.0.1", "once more"},
		{"abc:3.0.0 -:0.0.2 1<1/0", "carry 1", "abc:3.0.0 -:0.0.2", "an older one"},
		{"aa:2.0.0 -:0.0.1 1<1/0 1<2/0", "carry 1", "aa:2.0.0 -:0.0.1 1<2/0", "once more, its text as that of the next one"},
		{".:1.0.0 -:0.0.0 1<1/0", "carry 1", ".:1.0.0 -:0.0.1", "an empty message"},
		{"ab:2.0.0 -:0.0.1 1<0/0", "carry 1", "ab:2.0.0 -:0.0.1", "what only acknowledges is no message"},
		{"-:0.0.0 -:0.0.0 1<0/0", "carry 1", "-:0.0.0 -:0.0.0", "nor the first one"},
		{"ab:2.0.0 -:0.0.2 0<0/1", "carry 0", "ab:2.1.0 -:0.0.2", "acknowledged"},
		{"ab:2.0.0 -:0.0.2 0<0/2", "carry 0", "ab:2.2.0 -:0.0.2", "two at once"},
		{"ab:2.1.0 -:0.0.2 0<0/1", "carry 0", "ab:2.1.0 -:0.0.2", "an Ack as Acked"},
		{"ab:2.2.0 -:0.0.2 0<0/1", "carry 0", "ab:2.2.0 -:0.0.2", "an Ack below Acked"},
		{"ab:2.2.0 -:0.0.2 0<0/0", "carry 0", "ab:2.2.0 -:0.0.2", "an Ack of none"},
		{"ab:2.0.0 x:1.0.2 0<1/2", "carry 0", "ab:2.2.1 x:1.0.2", "a message that acknowledges too"},
		{"ab:2.0.1 xy:2.0.2 0<1/1", "carry 0", "ab:2.1.1 xy:2.0.2", "one that was taken acknowledges all the same"},
		{"ab:2.0.0 xy:2.0.2 0<2/2", "carry 0", "ab:2.2.0 xy:2.0.2", "and one too early"},
		{"ab:2.2.0 x:1.0.2 0<1/0", "carry 0", "ab:2.2.1 x:1.0.2", "taken, whatever it acknowledges"},
		{busyLink, "carry 1", "abcd:3.1.1 xy:2.1.2 1<3/0 1<0/1 0<1/2 0<2/1 ~1<1/0 ~0<0/2", "one that is too old, with an Ack that is not"},
		{busyLink, "carry 0", "abcd:3.2.1 xy:2.0.2 1<2/1 1<3/0 1<0/1 0<2/1 ~1<1/0 ~0<0/2", "at the other end"},
		{"ab:1.0.0 -:0.0.0", "carry 1", "", "nothing on the way"},
		{"ab:1.0.0 -:0.0.0 ~1<1/0", "carry 1", "", "on the other way alone"},
		{"ab:1.0.0 -:0.0.0 1<1/0", "carry 0", "", "to the other end alone"},
	})
}

// P10: what is lost, and what a carrying over to the other way leaves.
func TestLinkLoseAndOver(t *testing.T) {
	checkLinkCases(t, []linkCase{
		{"ab:1.0.0 -:0.0.0 1<1/0", "lose 1", "ab:1.0.0 -:0.0.0", "the only one"},
		{"ab:2.0.0 -:0.0.0 1<1/0 1<2/0", "lose 1", "ab:2.0.0 -:0.0.0 1<2/0", "the first one"},
		{"ab:2.0.0 -:0.0.2 0<0/2", "lose 0", "ab:2.0.0 -:0.0.2", "it does not acknowledge"},
		{busyLink, "lose 1", "abcd:3.1.1 xy:2.0.2 1<3/0 1<0/1 0<1/2 0<2/1 ~1<1/0 ~0<0/2", "the others stay"},
		{"ab:1.0.0 -:0.0.0", "lose 1", "", "nothing on the way"},
		{"ab:1.0.0 -:0.0.0 ~1<1/0", "lose 1", "", "on the other way alone"},
		{"ab:1.0.0 -:0.0.0 1<1/0", "lose 0", "", "to the other end alone"},
		{"-:0.0.0 -:0.0.0", "over 0", "-:0.0.0 -:0.0.0 way1", "nothing there"},
		{"-:0.0.0 -:0.0.0 way1", "over 0", "-:0.0.0 -:0.0.0", "and back"},
		{busyLink, "over 0", "abcd:3.1.1 xy:2.0.2 way1", "all Units on both ways are gone"},
		{busyLink + " way1", "over 0", "abcd:3.1.1 xy:2.0.2", "from way 1"},
		{"ab:1.0.0 -:0.0.0 ~1<1/0", "over 0", "ab:1.0.0 -:0.0.0 way1", "also those that come to be on the used one"},
	})
}

// P10: each Kind with each End and Text, on a link where all that is an op may
// be.
func TestLinkOpsThatAreNone(t *testing.T) {
	l := linkOf("abcd:3.1.1 xyz:2.0.2 1<2/1 0<1/2")
	for kind := -2; kind <= 9; kind++ {
		for _, end := range []int{math.MinInt, -1, 0, 1, 2, math.MaxInt} {
			for _, text := range []string{"", "t"} {
				want := kind >= 1 && kind <= 6 && (end == 0 || end == 1 && kind != 6) && (text == "" || kind == 1)
				op := impl.LinkOp{Kind: kind, End: end, Text: text}
				got, ok := impl.DoLink(l, op)
				if ok != want || sameLink(got, l) == want {
					t.Errorf("%+v: %v %v", op, got, ok)
				}
			}
		}
	}
	for _, kind := range []int{math.MinInt, math.MaxInt} {
		if got, ok := impl.DoLink(l, impl.LinkOp{Kind: kind}); ok || !sameLink(got, l) {
			t.Errorf("kind %d: %v %v", kind, got, ok)
		}
	}
}

// P10, P21: a text of MaxText bytes is told, and of one more is not.
func TestLinkTellLimits(t *testing.T) {
	texts := map[string]bool{"": true, strings.Repeat("t", 59): true, strings.Repeat("t", 60): true, strings.Repeat("t", 61): false,
		strings.Repeat("t", 5000): false, strings.Repeat("é", 30): true, strings.Repeat("é", 30) + "t": false, strings.Repeat("\xff", 60): true, strings.Repeat("\x00", 61): false}
	for end := range 2 {
		for text, want := range texts {
			got, ok := impl.DoLink(linkOf(busyLink), impl.LinkOp{Kind: impl.LinkTell, End: end, Text: text})
			after := linkOf(busyLink)
			if want {
				after.Ends[end].Out = append(after.Ends[end].Out, text)
			}
			if ok != want || !sameLink(got, after) {
				t.Errorf("end %d, %d bytes: %v %v", end, len(text), got, ok)
			}
		}
		for n := 95; n <= impl.MaxUnits; n++ {
			l := withOut(n, 3, 2, 1)
			if end == 1 {
				l = mirrored(l)
			}
			if got, ok := checkLinkOp(t, l, impl.LinkOp{Kind: impl.LinkTell, End: end, Text: "more"}); ok != (n < 100) || len(got.Ends[end].Out) != min(n+1, 100) {
				t.Errorf("end %d, %d messages: %v", end, n, ok)
			}
			if _, ok := checkLinkOp(t, l, impl.LinkOp{Kind: impl.LinkTell, End: 1 - end}); !ok {
				t.Errorf("end %d has %d messages, and the other end may tell none", end, n)
			}
		}
	}
}

// P10, P21: how many may be between Acked and Sent, at each Acked.
func TestLinkWindow(t *testing.T) {
	for acked := range impl.MaxUnits + 1 {
		for sent := acked; sent <= min(acked+impl.Window, impl.MaxUnits); sent++ {
			for _, n := range []int{sent, min(sent+1, 100), 100} {
				l := withOut(n, sent, acked, acked)
				got, ok := checkLinkOp(t, l, linkOpOf("send 0"))
				if ok != (sent < n && sent < acked+8) || ok && got.Ends[0].Sent != sent+1 {
					t.Errorf("%d told, %d sent, %d acknowledged: %v", n, sent, acked, ok)
				}
			}
			checkLinkOp(t, withOut(100, sent, sent, acked), linkOpOf("send 0"))
			got, _ := checkLinkOp(t, withOut(100, sent, sent, acked), linkOpOf("again 0"))
			if n := len(got.Ways[0][1]); n != max(sent-acked, 1) {
				t.Errorf("%d sent, %d acknowledged: %d again", sent, acked, n)
			}
		}
	}
}

// P10, P21: LinkSend and LinkAgain up to MaxUnits on the list that they put
// on; the other three lists may be full.
func TestLinkListsThatAreFull(t *testing.T) {
	full := make([]impl.Unit, impl.MaxUnits)
	for between := range impl.Window + 1 {
		for n := 85; n <= impl.MaxUnits; n++ {
			l := withOut(20, between, 0, 0)
			l.Ways = [2][2][]impl.Unit{{full, make([]impl.Unit, n)}, {full, full}}
			for _, same := range []impl.Link{l, otherWay(l)} {
				for end, turned := range []impl.Link{same, mirrored(same)} {
					checkFull(t, turned, end, between, n)
				}
			}
		}
	}
}

func checkFull(t *testing.T, l impl.Link, end int, between int, n int) {
	t.Helper()
	got, ok := checkLinkOp(t, l, impl.LinkOp{Kind: impl.LinkSend, End: end})
	if ok != (n < 100 && between < 8) || ok && len(got.Ways[l.Use][1-end]) != n+1 {
		t.Errorf("end %d, %d on the list, %d sent: one more: %v", end, n, between, ok)
	}
	got, ok = checkLinkOp(t, l, impl.LinkOp{Kind: impl.LinkAgain, End: end})
	want := n+max(between, 1) <= 100
	if ok != want || ok && len(got.Ways[l.Use][1-end]) != n+max(between, 1) {
		t.Errorf("end %d, %d on the list, %d sent: again: %v", end, n, between, ok)
	}
	if !ok && !sameLink(got, l) {
		t.Errorf("end %d, %d on the list, %d sent: refused, and %v", end, n, between, got)
	}
	for _, op := range []impl.LinkOp{{Kind: impl.LinkTell, End: end, Text: "t"}, {Kind: impl.LinkCarry, End: 1 - end}, {Kind: impl.LinkLose, End: 1 - end}, {Kind: impl.LinkCarry, End: end}, {Kind: impl.LinkLose, End: end}, {Kind: impl.LinkOver}} {
		if _, ok := checkLinkOp(t, l, op); !ok {
			t.Errorf("end %d, %d on the list: %v is refused", end, n, op)
		}
	}
}

// P10: a link that is not right stays as it was, whatever the op.
func TestDoLinkOfWrongLinks(t *testing.T) {
	ops := linkOpsOf("tell 0 t, tell 1 ., send 0, send 1, again 0, again 1, carry 0, carry 1, lose 0, lose 1, over 0, - 0, tell 2 t")
	for why, l := range wrongLinks() {
		for _, op := range ops {
			if got, ok := impl.DoLink(l, op); ok || !sameLink(got, l) {
				t.Errorf("%s, %v: %v %v", why, op, got, ok)
			}
		}
	}
}

// reachableLinks are all that ops lead to from an empty link with so many
// messages at each end at most, and so many Units on a list.
func reachableLinks(t *testing.T, most [2]int, units int) []impl.Link {
	t.Helper()
	ops := linkOpsOf("tell 0 a, tell 1 b, send 0, send 1, again 0, again 1, carry 0, carry 1, lose 0, lose 1, over 0")
	list := []impl.Link{{}}
	seen := map[string]bool{fmt.Sprint(list[0]): true}
	for at := 0; at < len(list); at++ {
		for _, op := range ops {
			after, ok := checkLinkOp(t, list[at], op)
			if !ok || len(after.Ends[0].Out) > most[0] || len(after.Ends[1].Out) > most[1] || len(after.Ways[after.Use][0]) > units || len(after.Ways[after.Use][1]) > units {
				continue
			}
			if key := fmt.Sprint(after); !seen[key] {
				seen[key] = true
				list = append(list, after)
			}
		}
	}
	return list
}

// P10: each op at all that ops lead to with few messages and Units, against the
// second telling, and each of these drained.
func TestLinkReached(t *testing.T) {
	for _, c := range []struct {
		most  [2]int
		units int
		least int
	}{{[2]int{3, 0}, 3, 1000}, {[2]int{1, 1}, 2, 1000}, {[2]int{2, 1}, 2, 3600}} {
		list := reachableLinks(t, c.most, c.units)
		if len(list) < c.least {
			t.Errorf("%v messages, %d Units: only %d were reached", c.most, c.units, len(list))
		}
		for _, l := range list {
			checkDrained(t, l)
		}
	}
}
