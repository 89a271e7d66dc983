package tests

import (
	"math"
	"slices"
	"testing"

	"loop.example/g00052/impl"
)

func TestHeardOfKnownPanels(t *testing.T) {
	for _, c := range []struct {
		lines int
		calls string
		want  map[int][]int // who is not named hears nobody
	}{
		{4, "", nil},
		{4, "ab", map[int][]int{0: {1}, 1: {0}}},
		{4, "ba", map[int][]int{0: {1}, 1: {0}}},
		{6, "dca", map[int][]int{0: {2, 3}, 2: {0, 3}, 3: {0, 2}}},
		{6, "dCa", map[int][]int{0: {3}, 3: {0}}},
		{6, "DCa", nil},
		{6, "DCA", nil},
		{4, "aB", nil},
		{6, "*abc", nil},
		{6, "*a bc", map[int][]int{1: {2}, 2: {1}}},
		{6, "eb cfd", map[int][]int{1: {4}, 4: {1}, 2: {3, 5}, 3: {2, 5}, 5: {2, 3}}},
		{40, "нaм", map[int][]int{0: {38, 39}, 38: {0, 39}, 39: {0, 38}}},
		{8, "hgfedcba", map[int][]int{0: {1, 2, 3, 4, 5, 6, 7}, 1: {0, 2, 3, 4, 5, 6, 7}, 2: {0, 1, 3, 4, 5, 6, 7}, 3: {0, 1, 2, 4, 5, 6, 7},
			4: {0, 1, 2, 3, 5, 6, 7}, 5: {0, 1, 2, 3, 4, 6, 7}, 6: {0, 1, 2, 3, 4, 5, 7}, 7: {0, 1, 2, 3, 4, 5, 6}}},
	} {
		p := panelOf(c.lines, c.calls)
		for line := range c.lines {
			if got := impl.Heard(p, line); !slices.Equal(got, c.want[line]) {
				t.Error(c.lines, c.calls, line, got)
			}
		}
	}
}

// farLines are none of six lines.
var farLines = []int{-1, -2, -6, 6, 7, 39, 40, 41, math.MaxInt, math.MinInt, 1 << 32, 1<<32 + 1, -(1 << 32)}

func TestHeardAndOneCallOfNoLines(t *testing.T) {
	for _, calls := range []string{"", "ab", "abcdef", "*ab"} {
		p := panelOf(6, calls)
		for _, line := range farLines {
			if got := impl.Heard(p, line); len(got) != 0 {
				t.Error(calls, line, got)
			}
			for _, other := range []int{line, 0, 1, 5, -line, farLines[0], farLines[3]} {
				if impl.OneCall(p, line, other) || impl.OneCall(p, other, line) {
					t.Error(calls, line, other)
				}
			}
		}
	}
}

func TestHearingOfWrongPanels(t *testing.T) {
	for name, p := range wrongPanels() {
		for line := -1; line <= 5; line++ {
			if got := impl.Heard(p, line); len(got) != 0 {
				t.Error(name, line, got)
			}
			for b := -1; b <= 5; b++ {
				if impl.OneCall(p, line, b) {
					t.Error(name, line, b)
				}
			}
		}
		for _, n := range []int{0, 1, 2, 3, 4, 6, 9, 40, 41} {
			if mixed, ok := impl.Mix(p, make([]int, n)); ok || len(mixed) != 0 {
				t.Error(name, n, mixed)
			}
		}
	}
}

func TestOneCallOfKnownPanels(t *testing.T) {
	for _, c := range []struct {
		calls string
		a, b  int
		want  bool
	}{
		{"ab cd", 0, 1, true}, {"ab cd", 1, 0, true}, {"ab cd", 2, 3, true},
		{"ab cd", 0, 2, false}, {"ab cd", 3, 1, false}, {"ab cd", 0, 4, false}, {"ab cd", 5, 3, false},
		{"ab cd", 0, 0, true}, {"ab cd", 3, 3, true}, {"ab cd", 4, 4, false}, {"ab cd", 5, 5, false}, {"ab cd", 4, 5, false},
		{"", 0, 0, false}, {"", 0, 1, false},
		{"*a", 0, 0, true}, {"*A", 0, 0, true}, {"*a", 0, 1, false}, {"*a *b", 0, 1, false}, {"*ab", 1, 0, true},
		{"AbC", 0, 2, true}, {"AbC", 2, 2, true}, {"AB", 0, 1, true}, {"fabcde", 5, 4, true},
	} {
		if got := impl.OneCall(panelOf(6, c.calls), c.a, c.b); got != c.want {
			t.Error(c, got)
		}
	}
}

func TestMixOfKnownPanels(t *testing.T) {
	for _, c := range []struct {
		calls  string
		levels []int
		want   []int
	}{
		{"", []int{1, 2, 3, 4}, []int{0, 0, 0, 0}},
		{"ab", []int{1, 2, 3, 4}, []int{2, 1, 0, 0}},
		{"dac", []int{1, -20, 300, 4000}, []int{4300, 0, 4001, 301}},
		{"dAc", []int{1, -20, 300, 4000}, []int{0, 0, 4000, 300}},
		{"aB", []int{1, 2, 3, 4}, []int{0, 0, 0, 0}},
		{"*ab cd", []int{1, 2, 3, 4}, []int{0, 0, 4, 3}},
		{"ab cd", []int{-1, -2, -3, -4}, []int{-2, -1, -4, -3}},
		// At both ends, by one beyond, and far beyond.
		{"ab", []int{32767, -32767, 0, 0}, []int{-32767, 32767, 0, 0}},
		{"abc", []int{32767, 0, 0, 0}, []int{0, 32767, 32767, 0}},
		{"abc", []int{32767, 1, -1, 0}, []int{0, 32766, 32767, 0}},
		{"abc", []int{-32767, 1, -1, 0}, []int{0, -32767, -32766, 0}},
		{"abc", []int{32766, 1, 1, 0}, []int{2, 32767, 32767, 0}},
		{"abc", []int{-32766, -1, -1, 0}, []int{-2, -32767, -32767, 0}},
		{"abcd", []int{32767, 32767, 32767, 32767}, []int{32767, 32767, 32767, 32767}},
		{"abcd", []int{-32767, -32767, -32767, -32767}, []int{-32767, -32767, -32767, -32767}},
		// The sum is cut off once, in the end, not leg by leg.
		{"abcd", []int{32767, 32767, -32767, 5}, []int{5, 5, 32767, 32767}},
		{"abcd", []int{-32767, -32767, 32767, 5}, []int{5, 5, -32767, -32767}},
	} {
		if got, ok := impl.Mix(panelOf(4, c.calls), c.levels); !ok || !slices.Equal(got, c.want) {
			t.Error(c, got, ok)
		}
	}
	loud := slices.Repeat([]int{32767}, 40)
	want := make([]int, 40)
	for line := range 8 {
		want[line] = 32767
	}
	if got, ok := impl.Mix(panelOf(40, "abcdefgh"), loud); !ok || !slices.Equal(got, want) {
		t.Error("a full call", got, ok)
	}
	if got, ok := impl.Mix(panelOf(1, "*a"), []int{5}); !ok || !slices.Equal(got, []int{0}) {
		t.Error("one line", got, ok)
	}
}

func TestMixOfNoLevels(t *testing.T) {
	p := panelOf(4, "abc")
	for n := range 60 {
		mixed, ok := impl.Mix(p, make([]int, n))
		if ok != (n == 4) || !ok && len(mixed) != 0 || ok && len(mixed) != 4 {
			t.Error(n, mixed, ok)
		}
	}
	if mixed, ok := impl.Mix(p, nil); ok || len(mixed) != 0 {
		t.Error("nil", mixed, ok)
	}
	// Wrong levels count where nobody hears them too.
	for at := range 4 {
		for _, calls := range []string{"", "abcd", "*abcd", "AbCd"} {
			for _, level := range []int{32768, -32768, 32769, -32769, math.MaxInt, math.MinInt, 1 << 32, -(1 << 32), 1<<32 + 5} {
				levels := []int{1, 2, 3, 4}
				levels[at] = level
				if mixed, ok := impl.Mix(panelOf(4, calls), levels); ok || len(mixed) != 0 {
					t.Error(calls, levels, mixed, ok)
				}
			}
			for _, level := range []int{32767, -32767, 0} {
				levels := []int{1, 2, 3, 4}
				levels[at] = level
				if mixed, ok := impl.Mix(panelOf(4, calls), levels); !ok || len(mixed) != 4 {
					t.Error(calls, levels, mixed, ok)
				}
			}
		}
	}
}

// checkHearing holds a right panel against what follows of P2.
func checkHearing(t *testing.T, p impl.Panel) {
	t.Helper()
	call := slices.Repeat([]int{-1}, p.Lines)
	speaks := make([]bool, p.Lines)
	for at, c := range p.Calls {
		for _, leg := range c.Legs {
			if call[leg.Line] >= 0 {
				t.Fatal("a line in two calls", callsOf(p))
			}
			call[leg.Line] = at
			speaks[leg.Line] = !leg.Held && !c.Parked
		}
	}
	levels := make([]int, p.Lines)
	for line := range levels {
		levels[line] = []int{1, -7, 32767, 20000, -32767, 0, 300, -20000}[line%8]
	}
	mixed, ok := impl.Mix(p, levels)
	if !ok || len(mixed) != p.Lines {
		t.Fatal("mix", callsOf(p), mixed, ok)
	}
	for a := range p.Lines {
		var heard []int
		sum := 0
		for b := range p.Lines {
			one := call[a] >= 0 && call[a] == call[b]
			if impl.OneCall(p, a, b) != one {
				t.Fatal("one call", callsOf(p), a, b)
			}
			if one && a != b && speaks[a] && speaks[b] {
				heard = append(heard, b)
				sum += levels[b]
			}
		}
		if got := impl.Heard(p, a); !slices.Equal(got, heard) {
			t.Fatal("heard", callsOf(p), a, got, heard)
		}
		if mixed[a] != max(-32767, min(sum, 32767)) {
			t.Fatal("mixed", callsOf(p), a, mixed[a], sum)
		}
	}
}

func TestHearingOfAllSmallPanels(t *testing.T) {
	for lines := 1; lines <= 4; lines++ {
		everyPanel(lines, func(p impl.Panel) { checkHearing(t, p) })
	}
}

// Who hears is heard, and being in one call is an equivalence of the lines
// that are in calls, told by the functions alone.
func TestOneCallIsAnEquivalence(t *testing.T) {
	for seed := range uint32(20) {
		lines := []int{40, 11, 6}[seed%3]
		p, _ := impl.RunPanel(impl.Panel{Lines: lines}, opsFrom(seed+1000, lines, 150))
		if !impl.PanelOk(p) {
			t.Fatal(seed, callsOf(p))
		}
		var one, hears [40][40]bool
		for a := range lines {
			for _, b := range impl.Heard(p, a) {
				hears[a][b] = true
			}
			for b := range lines {
				one[a][b] = impl.OneCall(p, a, b)
			}
		}
		for a := range lines {
			for b := range lines {
				if hears[a][b] != hears[b][a] || hears[a][b] && !one[a][b] {
					t.Error("hears and is not heard", callsOf(p), a, b)
				}
				if one[a][b] != one[b][a] || one[a][b] && !one[a][a] {
					t.Error("not alike both ways", callsOf(p), a, b)
				}
				for c := range lines {
					if one[a][b] && one[b][c] && !one[a][c] {
						t.Error("not carried on", callsOf(p), a, b, c)
					}
				}
			}
		}
	}
}
