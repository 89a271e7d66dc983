package tests

import (
	"fmt"
	"math"
	"slices"
	"strings"
	"testing"
	"unicode"

	"loop.example/g00052/impl"
)

// panelCase is an op at a panel and what comes of it, in the notation of
// l02_panel_test.go; an empty after beside a refusal means: as before.
type panelCase struct {
	lines  int
	before string
	op     impl.PanelOp
	after  string
	code   int
}

func checkPanelCases(t *testing.T, cases []panelCase) {
	t.Helper()
	for _, c := range cases {
		want := c.after
		if c.code != impl.PanelDone {
			want = c.before
		}
		got, code := impl.DoPanel(panelOf(c.lines, c.before), c.op)
		if code != c.code || got.Lines != c.lines || callsOf(got) != want {
			t.Errorf("%v: code %d, %d: %q", c, code, got.Lines, callsOf(got))
		}
	}
}

func joinOp(a, b int) impl.PanelOp { return impl.PanelOp{Kind: impl.PanelJoin, A: a, B: b} }
func dropOp(a int) impl.PanelOp    { return impl.PanelOp{Kind: impl.PanelDrop, A: a} }
func holdOp(a int) impl.PanelOp    { return impl.PanelOp{Kind: impl.PanelHold, A: a} }
func takeOp(a int) impl.PanelOp    { return impl.PanelOp{Kind: impl.PanelTake, A: a} }
func parkOp(a int) impl.PanelOp    { return impl.PanelOp{Kind: impl.PanelPark, A: a} }
func pickOp(a int) impl.PanelOp    { return impl.PanelOp{Kind: impl.PanelPick, A: a} }

func TestPanelJoin(t *testing.T) {
	const done, bad, same, full = impl.PanelDone, impl.PanelBad, impl.PanelSame, impl.PanelFull
	checkPanelCases(t, []panelCase{
		// Both free: a new call behind the others, A then B.
		{2, "", joinOp(0, 1), "ab", done},
		{2, "", joinOp(1, 0), "ba", done},
		{40, "", joinOp(39, 0), "нa", done},
		{6, "ef *c", joinOp(3, 0), "ef *c da", done},
		{40, "abcdefgh", joinOp(9, 8), "abcdefgh ji", done},
		// One in a call: the other comes behind its legs, whichever is A.
		{5, "ba", joinOp(0, 4), "bae", done},
		{5, "ba", joinOp(4, 0), "bae", done},
		{5, "ba", joinOp(4, 1), "bae", done},
		{6, "ab cd ef", joinOp(2, 1), "cdab ef", done},
		{7, "ab Cd ef", joinOp(6, 2), "ab Cdg ef", done},
		{7, "ab Cd ef", joinOp(3, 6), "ab Cdg ef", done},
		// Both in calls: B's legs behind A's, where A's stood; B's is gone.
		{6, "ab cd", joinOp(0, 2), "abcd", done},
		{6, "ab cd", joinOp(3, 1), "cdab", done},
		{6, "ab cd ef", joinOp(0, 5), "abef cd", done},
		{6, "ab cd ef", joinOp(4, 0), "cd efab", done},
		{6, "aB Cd", joinOp(1, 2), "aBCd", done},
		// Who comes to a Parked call ends that; so does a Parked one that comes.
		{3, "*a", joinOp(0, 2), "ac", done},
		{3, "*a", joinOp(2, 0), "ac", done},
		{3, "*A", joinOp(2, 0), "Ac", done},
		{4, "*ab", joinOp(3, 1), "abd", done},
		{4, "*a bc", joinOp(0, 2), "abc", done},
		{4, "*a bc", joinOp(2, 0), "bca", done},
		{4, "*a *b", joinOp(0, 1), "ab", done},
		{4, "*a *B *c", joinOp(1, 0), "Ba *c", done},
		{4, "*a bc", joinOp(1, 3), "*a bcd", done},
		// In one call already, a Parked or a full one too.
		{4, "ab", joinOp(0, 1), "", same},
		{4, "ab", joinOp(1, 0), "", same},
		{4, "*ab", joinOp(0, 1), "", same},
		{4, "AB", joinOp(1, 0), "", same},
		{8, "abcdefgh", joinOp(0, 7), "", same},
		{8, "*abcdefgh", joinOp(7, 0), "", same},
		// Ahead of that: line 3 has two legs, so the panel is wrong.
		{4, "cd aBd", joinOp(0, 1), "", bad},
		// MaxParty legs are taken, one more is not.
		{40, "abcdefg", joinOp(0, 7), "abcdefgh", done},
		{40, "*abcdefg", joinOp(7, 0), "abcdefgh", done},
		{40, "abcdefgh", joinOp(0, 8), "", full},
		{40, "abcdefgh", joinOp(8, 0), "", full},
		{40, "*abcdefgh", joinOp(8, 0), "", full},
		{40, "*abcdefgh", joinOp(7, 39), "", full},
		{40, "abcd efgh", joinOp(0, 7), "abcdefgh", done},
		{40, "abcdef gh", joinOp(6, 1), "ghabcdef", done},
		{40, "abcdefg *h", joinOp(7, 1), "habcdefg", done},
		{40, "abcd efghi", joinOp(0, 8), "", full},
		{40, "abcd efghi", joinOp(8, 0), "", full},
		{40, "abcdefgh *i", joinOp(0, 8), "", full},
		{40, "abcdefgh *i", joinOp(8, 0), "", full},
		{40, "abcdefgh ijklmnop", joinOp(8, 0), "", full},
	})
}

func TestPanelDrop(t *testing.T) {
	const done, none = impl.PanelDone, impl.PanelNone
	checkPanelCases(t, []panelCase{
		// Fewer than two legs are left: the call is gone and who is left is free.
		{4, "ab", dropOp(0), "", done},
		{4, "ab", dropOp(1), "", done},
		{4, "aB", dropOp(0), "", done},
		{4, "Ab", dropOp(0), "", done},
		{6, "ab cd ef", dropOp(2), "ab ef", done},
		{6, "ab cd ef", dropOp(1), "cd ef", done},
		{6, "ab cd ef", dropOp(4), "ab cd", done},
		// Two or more: it stands, in its order.
		{4, "abc", dropOp(0), "bc", done},
		{4, "abc", dropOp(1), "ac", done},
		{4, "abC", dropOp(1), "aC", done},
		{4, "abc", dropOp(2), "ab", done},
		{40, "abcdefgh", dropOp(3), "abcefgh", done},
		// A Parked one stands with one leg, and is gone with none.
		{4, "*ab", dropOp(0), "*b", done},
		{4, "*ab", dropOp(1), "*a", done},
		{4, "*a", dropOp(0), "", done},
		{4, "*A", dropOp(0), "", done},
		{4, "*a *b *c", dropOp(1), "*a *c", done},
		{5, "de *abc", dropOp(2), "de *ab", done},
		// A is free.
		{4, "", dropOp(0), "", none},
		{4, "ab", dropOp(3), "", none},
		{4, "*ab", dropOp(2), "", none},
	})
}

func TestPanelHoldAndTake(t *testing.T) {
	const done, same, none = impl.PanelDone, impl.PanelSame, impl.PanelNone
	checkPanelCases(t, []panelCase{
		{4, "ab", holdOp(0), "Ab", done},
		{4, "ab", holdOp(1), "aB", done},
		{4, "Ab", holdOp(1), "AB", done},
		{4, "*ab", holdOp(1), "*aB", done},
		{4, "*a", holdOp(0), "*A", done},
		{6, "ab *C dEf", holdOp(5), "ab *C dEF", done},
		{4, "Ab", holdOp(0), "", same},
		{4, "AB", holdOp(1), "", same},
		{4, "*aB", holdOp(1), "", same},
		{4, "ab", holdOp(2), "", none},
		{4, "", holdOp(0), "", none},
		{4, "Ab", takeOp(0), "ab", done},
		{4, "AB", takeOp(1), "Ab", done},
		{4, "*aB", takeOp(1), "*ab", done},
		{4, "*A", takeOp(0), "*a", done},
		{6, "AB *C dEf", takeOp(4), "AB *C def", done},
		{4, "ab", takeOp(0), "", same},
		{4, "Ab", takeOp(1), "", same},
		{4, "*Ab", takeOp(1), "", same},
		{4, "AB", takeOp(2), "", none},
		{4, "", takeOp(0), "", none},
	})
}

func TestPanelPark(t *testing.T) {
	const done, none = impl.PanelDone, impl.PanelNone
	checkPanelCases(t, []panelCase{
		{4, "ab", parkOp(0), "*b", done},
		{4, "ab", parkOp(1), "*a", done},
		{4, "aB", parkOp(0), "*B", done},
		{4, "Ab", parkOp(0), "*b", done},
		{4, "abc", parkOp(1), "*ac", done},
		{40, "abcdefgh", parkOp(7), "*abcdefg", done},
		{6, "ab cd ef", parkOp(3), "ab *c ef", done},
		// Of one that is Parked already: it stays so, and is gone without legs.
		{4, "*ab", parkOp(0), "*b", done},
		{4, "*a", parkOp(0), "", done},
		{4, "*a *b *c", parkOp(1), "*a *c", done},
		{4, "", parkOp(0), "", none},
		{4, "ab", parkOp(2), "", none},
		{4, "*ab", parkOp(3), "", none},
	})
}

func TestPanelPick(t *testing.T) {
	const done, same, full, none = impl.PanelDone, impl.PanelSame, impl.PanelFull, impl.PanelNone
	checkPanelCases(t, []panelCase{
		{4, "*a", pickOp(1), "ab", done},
		{4, "*b", pickOp(0), "ba", done},
		{4, "*A", pickOp(3), "Ad", done},
		{6, "ab *c *de", pickOp(5), "ab cf *de", done},
		{6, "ab *ed *c", pickOp(5), "ab edf *c", done},
		{40, "*abcdefg", pickOp(39), "abcdefgн", done},
		// The first Parked one counts, though a later one would have room.
		{40, "*abcdefgh", pickOp(39), "", full},
		{40, "*abcdefgh *i", pickOp(39), "", full},
		{40, "*i *abcdefgh", pickOp(39), "iн *abcdefgh", done},
		{40, "abcdefgh *i", pickOp(39), "abcdefgh iн", done},
		// A is in a call, the Parked one itself among them, one there or not, full or not.
		{4, "*a", pickOp(0), "", same},
		{4, "*a bc", pickOp(1), "", same},
		{4, "bc", pickOp(1), "", same},
		{4, "*a *b", pickOp(1), "", same},
		{40, "*abcdefgh ij", pickOp(8), "", same},
		{40, "*abcdefgh", pickOp(0), "", same},
		{4, "", pickOp(0), "", none},
		{4, "ab", pickOp(2), "", none},
	})
}

func TestPanelOpsThatAreNone(t *testing.T) {
	far := []int{-1, -2, 6, 7, 40, math.MaxInt, math.MinInt, 1 << 32, 1<<32 + 1, -(1 << 32)}
	var ops []impl.PanelOp
	for _, x := range far {
		for kind := impl.PanelJoin; kind <= impl.PanelPick; kind++ {
			ops = append(ops, impl.PanelOp{Kind: kind, A: x}, impl.PanelOp{Kind: kind, A: x, B: 1}, impl.PanelOp{Kind: kind, A: 0, B: x},
				impl.PanelOp{Kind: kind, A: 1, B: x}, impl.PanelOp{Kind: kind, A: x, B: x})
		}
		if x < impl.PanelJoin || x > impl.PanelPick {
			ops = append(ops, impl.PanelOp{Kind: x}, impl.PanelOp{Kind: x, A: 4, B: 5})
		}
	}
	ops = append(ops, impl.PanelOp{}, impl.PanelOp{A: 4, B: 5}, impl.PanelOp{Kind: 7}, impl.PanelOp{Kind: 7, A: 4, B: 5})
	for line := range 6 {
		ops = append(ops, joinOp(line, line))
		for b := 1; b < 6; b++ {
			for kind := impl.PanelDrop; kind <= impl.PanelPick; kind++ {
				ops = append(ops, impl.PanelOp{Kind: kind, A: line, B: b})
			}
		}
	}
	for _, calls := range []string{"", "aB *c", "abcdef", "*ab cdEF"} {
		for _, op := range ops {
			checkPanelCases(t, []panelCase{{6, calls, op, "", impl.PanelBad}})
		}
	}
}

func TestDoPanelOfWrongPanels(t *testing.T) {
	for name, p := range wrongPanels() {
		first := copyOfPanel(p)
		for kind := 0; kind <= 7; kind++ {
			for _, op := range []impl.PanelOp{{Kind: kind}, {Kind: kind, A: 1}, {Kind: kind, B: 1}, {Kind: kind, A: 2, B: 3}} {
				got, code := impl.DoPanel(p, op)
				if code != impl.PanelBad || !samePanel(got, first) || !samePanel(p, first) {
					t.Error(name, op, got, code)
				}
			}
		}
	}
}

func isPanelOp(lines int, op impl.PanelOp) bool {
	if op.A < 0 || op.A >= lines {
		return false
	}
	switch op.Kind {
	case impl.PanelJoin:
		return op.B >= 0 && op.B < lines && op.A != op.B
	case impl.PanelDrop, impl.PanelHold, impl.PanelTake, impl.PanelPark, impl.PanelPick:
		return op.B == 0
	}
	return false
}

// opByText does an op as DoPanel does, on the text of the calls: lines are
// letters there, and a call is found by the letter that is in it.
func opByText(lines int, calls string, op impl.PanelOp) (string, int) {
	if !isPanelOp(lines, op) {
		return calls, impl.PanelBad
	}
	words := strings.Fields(calls)
	whose := func(line int) int {
		return slices.IndexFunc(words, func(word string) bool { return strings.ContainsRune(strings.ToLower(word), lineLetters[line]) })
	}
	tell := func() (string, int) { return strings.Join(words, " "), impl.PanelDone }
	come := func(to int, letters string) bool {
		word := strings.Trim(words[to], "*") + strings.Trim(letters, "*")
		if len([]rune(word)) > 8 {
			return false
		}
		words[to] = word
		return true
	}
	a, b := whose(op.A), -1
	letter := string(lineLetters[op.A])
	if op.Kind == impl.PanelJoin {
		b = whose(op.B)
		other := string(lineLetters[op.B])
		fits := true
		switch {
		case a < 0 && b < 0:
			words = append(words, letter+other)
		case a == b:
			return calls, impl.PanelSame
		case a < 0:
			fits = come(b, letter)
		case b < 0:
			fits = come(a, other)
		default:
			fits = come(a, words[b])
			if fits {
				words = slices.Delete(words, b, b+1)
			}
		}
		if !fits {
			return calls, impl.PanelFull
		}
		return tell()
	}
	if op.Kind == impl.PanelPick {
		parked := slices.IndexFunc(words, func(word string) bool { return word[0] == '*' })
		switch {
		case a >= 0:
			return calls, impl.PanelSame
		case parked < 0:
			return calls, impl.PanelNone
		case !come(parked, letter):
			return calls, impl.PanelFull
		}
		return tell()
	}
	if a < 0 {
		return calls, impl.PanelNone
	}
	great := strings.ToUpper(letter)
	old := words[a]
	switch op.Kind {
	case impl.PanelHold:
		words[a] = strings.Replace(old, letter, great, 1)
	case impl.PanelTake:
		words[a] = strings.Replace(old, great, letter, 1)
	default:
		without := strings.Map(func(r rune) rune {
			if unicode.ToLower(r) == lineLetters[op.A] {
				return -1
			}
			return r
		}, old)
		if op.Kind == impl.PanelPark {
			without = "*" + strings.Trim(without, "*")
		}
		words[a] = without
		if without == "*" || len([]rune(without)) < 2 {
			words = slices.Delete(words, a, a+1)
		}
		return tell()
	}
	if words[a] == old {
		return calls, impl.PanelSame
	}
	return tell()
}

// Every panel of up to four lines, every op, and with fewer than four those that are none.
func TestDoPanelOfAllSmallPanels(t *testing.T) {
	told := map[[2]int]int{}
	for lines := 1; lines <= 4; lines++ {
		everyPanel(lines, func(p impl.Panel) { tryAllOps(t, p, told) })
	}
	for kind := impl.PanelJoin; kind <= impl.PanelPick; kind++ {
		if told[[2]int{kind, impl.PanelDone}] == 0 || told[[2]int{kind, impl.PanelBad}] == 0 {
			t.Error("never done or never refused", kind)
		}
	}
}

func tryAllOps(t *testing.T, p impl.Panel, told map[[2]int]int) {
	t.Helper()
	calls := callsOf(p)
	if !impl.PanelOk(p) {
		t.Fatal("not right", calls)
	}
	for kind := impl.PanelJoin - 1; kind <= impl.PanelPick+1; kind++ {
		for a := -1; a <= p.Lines; a++ {
			for b := -1; b <= p.Lines; b++ {
				op := impl.PanelOp{Kind: kind, A: a, B: b}
				if p.Lines > 3 && !isPanelOp(p.Lines, op) {
					continue // those that are none were tried at the smaller ones
				}
				want, wantCode := opByText(p.Lines, calls, op)
				got, code := impl.DoPanel(p, op)
				if code != wantCode || got.Lines != p.Lines || callsOf(got) != want || !impl.PanelOk(got) {
					t.Fatalf("%d: %q %v: %d %q, wanted %d %q", p.Lines, calls, op, code, callsOf(got), wantCode, want)
				}
				told[[2]int{kind, code}]++
			}
		}
	}
}

// opsFrom are n ops over lines, some of them none, from a rule that turns
// about with the seed.
func opsFrom(seed uint32, lines int, n int) []impl.PanelOp {
	turn := func(below int) int {
		seed = seed*1664525 + 1013904223
		return int(seed>>8) % below
	}
	kinds := []int{1, 1, 1, 1, 1, 1, 2, 3, 3, 4, 5, 5, 6, 6}
	var ops []impl.PanelOp
	for range n {
		op := impl.PanelOp{Kind: kinds[turn(len(kinds))], A: turn(lines)}
		if op.Kind == impl.PanelJoin {
			op.B = turn(lines)
		}
		switch turn(60) {
		case 0:
			op.Kind = 7
		case 1:
			op.A = lines
		case 2:
			op.B = -1
		}
		ops = append(ops, op)
	}
	return ops
}

// Long runs over many lines: each op against the text, the run against the
// ops one by one, and what follows for each panel on the way.
func TestRunPanelAgainstSingleOps(t *testing.T) {
	told := map[[2]int]int{}
	for seed := range uint32(60) {
		lines := []int{40, 40, 12, 9, 5, 2}[seed%6]
		ops := opsFrom(seed, lines, 200)
		p, calls := panelOf(lines, ""), ""
		var codes []int
		for i, op := range ops {
			want, wantCode := opByText(lines, calls, op)
			next, code := impl.DoPanel(p, op)
			if code != wantCode || callsOf(next) != want || next.Lines != lines || !impl.PanelOk(next) {
				t.Fatalf("seed %d: %q %v: %d %q, wanted %d %q", seed, calls, op, code, callsOf(next), wantCode, want)
			}
			told[[2]int{op.Kind, code}]++
			codes = append(codes, code)
			p, calls = next, want
			if i%25 == 24 {
				checkHearing(t, p)
			}
		}
		if got, gotCodes := impl.RunPanel(panelOf(lines, ""), ops); !samePanel(got, p) || !slices.Equal(gotCodes, codes) {
			t.Error("seed", seed, callsOf(got), gotCodes, "wanted", callsOf(p), codes)
		}
	}
	for _, seen := range [][2]int{{1, 0}, {1, 1}, {1, 2}, {1, 3}, {2, 0}, {2, 4}, {3, 0}, {3, 2}, {3, 4}, {4, 0}, {4, 2}, {4, 4}, {5, 0}, {5, 4}, {6, 0}, {6, 2}, {6, 4}} {
		if told[seen] == 0 {
			t.Error("never told: kind and code", seen)
		}
	}
}

func TestRunPanelOfKnownOps(t *testing.T) {
	for _, c := range []struct {
		before string
		ops    []impl.PanelOp
		after  string
		codes  []int
	}{
		{"", nil, "", nil},
		{"aB *c", nil, "aB *c", nil},
		{"aB *c", []impl.PanelOp{}, "aB *c", nil},
		{"", []impl.PanelOp{joinOp(0, 1), dropOp(0), dropOp(1)}, "", []int{0, 0, 4}},
		{"", []impl.PanelOp{joinOp(0, 1), joinOp(1, 0), joinOp(2, 2), {Kind: 9}, joinOp(2, 3), pickOp(4), parkOp(0), pickOp(4), holdOp(4), holdOp(4), takeOp(1)},
			"bE cd", []int{0, 2, 1, 1, 0, 4, 0, 0, 0, 2, 2}},
		{"ab cd", []impl.PanelOp{parkOp(2), joinOp(0, 3), parkOp(3), parkOp(0), parkOp(1), parkOp(1)}, "", []int{0, 0, 0, 0, 0, 4}},
	} {
		p, codes := impl.RunPanel(panelOf(6, c.before), c.ops)
		if p.Lines != 6 || callsOf(p) != c.after || !slices.Equal(codes, c.codes) {
			t.Error(c, callsOf(p), codes)
		}
	}
}

func TestRunPanelLimit(t *testing.T) {
	for n := 195; n <= 200; n++ {
		ops := slices.Repeat([]impl.PanelOp{dropOp(3)}, n)
		ops[n-1] = joinOp(3, 2)
		p, codes := impl.RunPanel(panelOf(4, "ab"), ops)
		want := append(slices.Repeat([]int{impl.PanelNone}, n-1), impl.PanelDone)
		if p.Lines != 4 || callsOf(p) != "ab dc" || !slices.Equal(codes, want) {
			t.Error(n, p, codes)
		}
	}
	wrong := panelOf(4, "a")
	for _, n := range []int{201, 202, 400, 5000} {
		ops := slices.Repeat([]impl.PanelOp{dropOp(3)}, n)
		for _, q := range []impl.Panel{panelOf(4, "ab"), wrong, {}} {
			if p, codes := impl.RunPanel(q, ops); !samePanel(p, impl.Panel{}) || len(codes) != 0 {
				t.Error(n, q, p, codes)
			}
		}
	}
}

func TestRunPanelOfWrongPanels(t *testing.T) {
	for name, p := range wrongPanels() {
		for _, n := range []int{0, 1, 3, 200} {
			got, codes := impl.RunPanel(p, slices.Repeat([]impl.PanelOp{joinOp(0, 1)}, n))
			if !samePanel(got, p) || !slices.Equal(codes, slices.Repeat([]int{impl.PanelBad}, n)) {
				t.Error(name, n, got, codes)
			}
		}
	}
}

// Nothing is kept: the same op at the same panel tells the same again, with
// others between.
func TestDoPanelKeepsNothing(t *testing.T) {
	p := panelOf(6, "ab *c")
	first, firstCode := impl.DoPanel(p, pickOp(3))
	for _, op := range opsFrom(7, 6, 50) {
		impl.DoPanel(first, op)
		impl.RunPanel(p, []impl.PanelOp{op, op})
		again, code := impl.DoPanel(p, pickOp(3))
		if code != firstCode || !samePanel(again, first) || fmt.Sprint(again) != "{6 [{false [{0 false} {1 false}]} {false [{2 false} {3 false}]}]}" {
			t.Error(op, again, code)
		}
	}
}
