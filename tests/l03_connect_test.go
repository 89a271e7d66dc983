package tests

import (
	"math"
	"slices"
	"testing"

	"loop.example/g00052/impl"
)

// connectCase is a fabric, what is to be connected in it, and what is answered.
type connectCase struct {
	why      string
	fabric   string
	from, to int
	want     string
	moves    []impl.Move
}

func checkConnectCases(t *testing.T, cases []connectCase) {
	t.Helper()
	for _, c := range cases {
		f := fabricOf(c.fabric)
		if !impl.FabricOk(f) {
			t.Error(c.why, "begins with a wrong fabric", c.fabric)
		}
		got, moves, code := impl.Connect(f, c.from, c.to)
		if code != impl.FabDone || textOfFabric(got) != c.want || !slices.Equal(moves, c.moves) {
			t.Errorf("%s: %d to %d of %q: %q %v %d, want %q %v", c.why, c.from, c.to, c.fabric, textOfFabric(got), moves, code, c.want, c.moves)
		}
	}
}

func TestConnectWithoutMoves(t *testing.T) {
	checkConnectCases(t, []connectCase{
		{"the first path", "1.1.1", 0, 0, "1.1.1 0-0/0", nil},
		{"the first path of many", "6.4.12", 23, 0, "6.4.12 23-0/0", nil},
		{"the last inlet and outlet", "2.3.2", 5, 5, "2.3.2 5-5/0", nil},
		{"0 taken at the switch in", "2.2.2 0-2/0", 1, 0, "2.2.2 0-2/0 1-0/1", nil},
		{"0 taken at the switch out", "2.2.2 2-0/0", 0, 1, "2.2.2 2-0/0 0-1/1", nil},
		{"0 taken elsewhere", "2.2.2 2-2/0", 0, 0, "2.2.2 2-2/0 0-0/0", nil},
		{"another one at each", "2.2.3 0-2/0 2-0/1", 1, 1, "2.2.3 0-2/0 2-0/1 1-1/2", nil},
		{"a gap below", "1.4.4 0-0/0 1-1/2", 2, 2, "1.4.4 0-0/0 1-1/2 2-2/1", nil},
		{"gaps that are no gap of the other", "2.4.12 0-4/0 1-5/2 4-0/1 5-1/3", 2, 2, "2.4.12 0-4/0 1-5/2 4-0/1 5-1/3 2-2/4", nil},
		{"the last Mid of all", "2.4.12 0-4/0 1-5/1 2-6/2 4-0/9 5-1/8 6-2/7", 3, 3, "2.4.12 0-4/0 1-5/1 2-6/2 4-0/9 5-1/8 6-2/7 3-3/3", nil},
		{"behind greater ones", "2.2.2 3-3/1 2-2/0", 0, 0, "2.2.2 3-3/1 2-2/0 0-0/0", nil},
		{"no room for any but it", "1.2.2 1-0/0", 0, 1, "1.2.2 1-0/0 0-1/1", nil},
		{"the last Mid there is", "2.4.7 0-4/0 1-5/1 2-6/2 4-0/3 5-1/4 6-2/5", 3, 3, "2.4.7 0-4/0 1-5/1 2-6/2 4-0/3 5-1/4 6-2/5 3-3/6", nil},
	})
}

// In these a is free at the switch in and taken at the switch out, b the other
// way round. "a 1, b 0" and so on tells which they are.
func TestConnectWithMoves(t *testing.T) {
	checkConnectCases(t, []connectCase{
		{"a 1, b 0, both chains of one: the first", "2.2.2 0-2/0 2-0/1", 1, 1,
			"2.2.2 0-2/0 2-0/0 1-1/1", []impl.Move{{From: 2, Mid: 0}}},
		{"a 0, b 1, both chains of one: the first", "2.2.2 0-2/1 2-0/0", 1, 1,
			"2.2.2 0-2/1 2-0/1 1-1/0", []impl.Move{{From: 2, Mid: 1}}},
		{"the order of the paths plays no part", "2.2.2 2-0/1 0-2/0", 1, 1,
			"2.2.2 2-0/0 0-2/0 1-1/1", []impl.Move{{From: 2, Mid: 0}}},
		{"a 1, b 0, the first of two, the other of one", "3.2.2 0-2/0 2-0/1 3-4/0", 1, 1,
			"3.2.2 0-2/1 2-0/1 3-4/0 1-1/0", []impl.Move{{From: 0, Mid: 1}}},
		{"a 0, b 1, the first of two, the other of one", "3.2.2 0-2/1 2-0/0 3-4/1", 1, 1,
			"3.2.2 0-2/0 2-0/0 3-4/1 1-1/1", []impl.Move{{From: 0, Mid: 0}}},
		{"a 1, b 0, the first of one, the other of two", "3.2.2 0-2/0 2-0/1 4-3/1", 1, 1,
			"3.2.2 0-2/0 2-0/0 4-3/1 1-1/1", []impl.Move{{From: 2, Mid: 0}}},
		{"both of two: the first", "3.2.2 0-2/0 2-0/1 3-4/0 4-3/1", 1, 1,
			"3.2.2 0-2/0 2-0/0 3-4/1 4-3/1 1-1/1", []impl.Move{{From: 2, Mid: 0}, {From: 3, Mid: 1}}},
		{"the first of three, the other of two", "4.2.2 0-2/0 2-0/1 3-4/0 6-5/1 4-3/1", 1, 1,
			"4.2.2 0-2/1 2-0/1 3-4/0 6-5/1 4-3/0 1-1/0", []impl.Move{{From: 0, Mid: 1}, {From: 4, Mid: 0}}},
		{"the first of two, the other of three", "4.2.2 4-3/1 5-6/0 3-4/0 0-2/0 2-0/1", 1, 1,
			"4.2.2 4-3/1 5-6/0 3-4/1 0-2/0 2-0/0 1-1/1", []impl.Move{{From: 2, Mid: 0}, {From: 3, Mid: 1}}},
		{"both of three: the first", "4.2.2 0-2/0 4-3/1 5-6/0 2-0/1 3-4/0 6-5/1", 1, 1,
			"4.2.2 0-2/0 4-3/1 5-6/0 2-0/0 3-4/1 6-5/0 1-1/1", []impl.Move{{From: 2, Mid: 0}, {From: 3, Mid: 1}, {From: 6, Mid: 0}}},
		{"least of several: a 1, b 0", "2.4.4 0-4/0 1-5/2 4-0/1 5-1/3", 2, 2,
			"2.4.4 0-4/0 1-5/2 4-0/0 5-1/3 2-2/1", []impl.Move{{From: 4, Mid: 0}}},
		{"least of several: a 2, b 1", "2.4.4 0-4/1 1-5/0 3-6/3 4-0/2 5-1/0", 2, 2,
			"2.4.4 0-4/1 1-5/0 3-6/3 4-0/1 5-1/0 2-2/2", []impl.Move{{From: 4, Mid: 1}}},
		{"other Mids are not in the way", "3.3.3 0-3/0 1-6/2 3-0/1 4-4/2 6-1/2", 2, 2,
			"3.3.3 0-3/0 1-6/2 3-0/0 4-4/2 6-1/2 2-2/1", []impl.Move{{From: 3, Mid: 0}}},
	})
}

// Both chains together go through all twelve switches, five moves each;
// without its last path either one is the shorter one.
func TestConnectWithLongestChains(t *testing.T) {
	first := "2-0/1 3-2/0 4-3/1 5-4/0 6-5/1"
	other := "0-6/0 8-7/1 9-8/0 10-9/1 11-10/0"
	checkConnectCases(t, []connectCase{
		{"both of five", "6.2.2 " + first + " " + other, 1, 1,
			"6.2.2 2-0/0 3-2/1 4-3/0 5-4/1 6-5/0 " + other + " 1-1/1",
			[]impl.Move{{From: 2, Mid: 0}, {From: 3, Mid: 1}, {From: 4, Mid: 0}, {From: 5, Mid: 1}, {From: 6, Mid: 0}}},
		{"five and four", "6.2.2 " + first + " 0-6/0 8-7/1 9-8/0 10-9/1", 1, 1,
			"6.2.2 " + first + " 0-6/1 8-7/0 9-8/1 10-9/0 1-1/0",
			[]impl.Move{{From: 0, Mid: 1}, {From: 8, Mid: 0}, {From: 9, Mid: 1}, {From: 10, Mid: 0}}},
		{"four and five", "6.2.2 2-0/1 3-2/0 4-3/1 5-4/0 " + other, 1, 1,
			"6.2.2 2-0/0 3-2/1 4-3/0 5-4/1 " + other + " 1-1/1",
			[]impl.Move{{From: 2, Mid: 0}, {From: 3, Mid: 1}, {From: 4, Mid: 0}, {From: 5, Mid: 1}}},
	})
}

// refusal is a fabric, what is asked of it, and the code that refuses it.
type refusal struct {
	why      string
	fabric   string
	from, to int
	code     int
}

func refusals() []refusal {
	list := []refusal{
		{"from below 0", "2.2.2 0-0/0", -1, 1, impl.FabBad},
		{"from at the end", "2.2.2 0-0/0", 4, 1, impl.FabBad},
		{"to below 0", "2.2.2 0-0/0", 1, -1, impl.FabBad},
		{"to at the end", "2.2.2 0-0/0", 1, 4, impl.FabBad},
		{"far below 0", "2.2.2", math.MinInt, 0, impl.FabBad},
		{"far behind", "2.2.2", 0, math.MaxInt, impl.FabBad},
		{"a port of a greater fabric", "5.4.12", 20, 0, impl.FabBad},
		{"an outlet of a greater fabric", "6.3.12", 0, 18, impl.FabBad},
		{"from has a path", "2.2.2 0-0/0", 0, 1, impl.FabBusy},
		{"to has a path", "2.2.2 0-0/0", 1, 0, impl.FabBusy},
		{"both have one path", "2.2.2 0-0/0", 0, 0, impl.FabBusy},
		{"both have one each", "2.2.2 0-0/0 3-3/0", 0, 3, impl.FabBusy},
		{"from at the last place has a path", "2.2.2 0-0/0 3-2/0", 3, 3, impl.FabBusy},
		{"to at the last place has a path", "2.2.2 0-0/0 2-3/0", 3, 3, impl.FabBusy},
		{"none free at both", "1.2.1 0-0/0", 1, 1, impl.FabBlocked},
		{"none free at the switch in", "2.2.1 0-2/0", 1, 0, impl.FabBlocked},
		{"none free at the switch out", "2.2.1 2-0/0", 0, 1, impl.FabBlocked},
		{"three of four at the switch in", "2.4.3 0-4/0 1-5/1 2-6/2", 3, 0, impl.FabBlocked},
		{"three of four at the switch out", "2.4.3 4-0/2 5-1/1 6-2/0", 0, 3, impl.FabBlocked},
		// Where several apply.
		{"bad from, busy to", "2.2.2 0-0/0", 4, 0, impl.FabBad},
		{"busy from, bad to", "2.2.2 0-0/0", 0, -1, impl.FabBad},
		{"bad from, blocked to", "2.2.1 2-0/0", -1, 1, impl.FabBad},
		{"blocked from, bad to", "2.2.1 0-2/0", 1, 4, impl.FabBad},
		{"busy from, blocked to", "2.2.1 2-0/0", 2, 1, impl.FabBusy},
		{"blocked from, busy to", "2.2.1 0-2/0", 1, 2, impl.FabBusy},
		{"busy from, where all are blocked", "1.2.1 0-0/0", 0, 1, impl.FabBusy},
		{"busy to, where all are blocked", "1.2.1 0-0/0", 1, 0, impl.FabBusy},
	}
	for why, text := range wrongFabrics() {
		list = append(list, refusal{why, text, 0, 0, impl.FabBad}, refusal{why, text, 1, 1, impl.FabBad}, refusal{why, text, -1, 99, impl.FabBad})
	}
	return list
}

func TestConnectRefuses(t *testing.T) {
	for _, c := range refusals() {
		got, moves, code := impl.Connect(fabricOf(c.fabric), c.from, c.to)
		if code != c.code || len(moves) != 0 || textOfFabric(got) != c.fabric {
			t.Errorf("%s: %d to %d of %q: %q %v %d, want %d", c.why, c.from, c.to, c.fabric, textOfFabric(got), moves, code, c.code)
		}
	}
}

// Each size has its own ends: the last inlet and outlet are taken, the next ones not.
func TestConnectEnds(t *testing.T) {
	for sides := 1; sides <= impl.MaxSides; sides++ {
		for ports := 1; ports <= impl.MaxPorts; ports++ {
			f := impl.Fabric{Sides: sides, Ports: ports, Mid: 1}
			end := sides * ports
			for x := -2; x <= end+2; x++ {
				want := impl.FabBad
				if x >= 0 && x < end {
					want = impl.FabDone
				}
				if _, _, code := impl.Connect(f, x, end-1); code != want {
					t.Error(f, "from", x, code)
				}
				if _, _, code := impl.Connect(f, end-1, x); code != want {
					t.Error(f, "to", x, code)
				}
			}
		}
	}
}

// freeAtSwitches tells which Mids are free at a switch in, and at one out.
func freeAtSwitches(f impl.Fabric, in int, out int) (atIn []int, atOut []int) {
	for mid := range f.Mid {
		if !slices.ContainsFunc(f.Paths, func(p impl.Path) bool { return p.From/f.Ports == in && p.Mid == mid }) {
			atIn = append(atIn, mid)
		}
		if !slices.ContainsFunc(f.Paths, func(p impl.Path) bool { return p.To/f.Ports == out && p.Mid == mid }) {
			atOut = append(atOut, mid)
		}
	}
	return atIn, atOut
}

// neighbours grows a chain from one path over those with a or b that share a
// switch with its last one: which half it is at plays no part here.
func neighbours(f impl.Fabric, a int, b int, begin func(p impl.Path) bool) []impl.Path {
	chain := []impl.Path{f.Paths[slices.IndexFunc(f.Paths, begin)]}
	for {
		last := chain[len(chain)-1]
		next := slices.IndexFunc(f.Paths, func(p impl.Path) bool {
			near := p.From/f.Ports == last.From/f.Ports || p.To/f.Ports == last.To/f.Ports
			return near && (p.Mid == a || p.Mid == b) && !slices.Contains(chain, p)
		})
		if next < 0 {
			return chain
		}
		chain = append(chain, f.Paths[next])
	}
}

// connectByTurning tells a second time what Connect answers, of a fabric that
// is right: each path of the shorter chain gets the one of a and b that it
// has not.
func connectByTurning(f impl.Fabric, from int, to int) (impl.Fabric, []impl.Move, int) {
	g := copyOfFabric(f)
	if min(from, to) < 0 || max(from, to) >= f.Sides*f.Ports {
		return g, nil, impl.FabBad
	}
	if slices.ContainsFunc(f.Paths, func(p impl.Path) bool { return p.From == from || p.To == to }) {
		return g, nil, impl.FabBusy
	}
	in, out := from/f.Ports, to/f.Ports
	atIn, atOut := freeAtSwitches(f, in, out)
	if len(atIn) == 0 || len(atOut) == 0 {
		return g, nil, impl.FabBlocked
	}
	for _, mid := range atIn {
		if slices.Contains(atOut, mid) {
			g.Paths = append(g.Paths, impl.Path{From: from, To: to, Mid: mid})
			return g, nil, impl.FabDone
		}
	}
	a, b := atIn[0], atOut[0]
	chain := neighbours(f, a, b, func(p impl.Path) bool { return p.To/f.Ports == out && p.Mid == a })
	mid := a
	other := neighbours(f, a, b, func(p impl.Path) bool { return p.From/f.Ports == in && p.Mid == b })
	if len(other) < len(chain) {
		chain, mid = other, b
	}
	var moves []impl.Move
	for _, p := range chain {
		at := slices.Index(g.Paths, p)
		g.Paths[at].Mid = a + b - p.Mid
		moves = append(moves, impl.Move{From: p.From, Mid: a + b - p.Mid})
	}
	g.Paths = append(g.Paths, impl.Path{From: from, To: to, Mid: mid})
	return g, moves, impl.FabDone
}

// checkConnect holds Connect against its second telling and against what
// follows from the document, and answers how many moves it took, and its code.
func checkConnect(t *testing.T, f impl.Fabric, from int, to int) (int, int) {
	t.Helper()
	got, moves, code := impl.Connect(f, from, to)
	want, wantMoves, wantCode := connectByTurning(f, from, to)
	if code != wantCode || !sameFabric(got, want) || !slices.Equal(moves, wantMoves) {
		t.Fatalf("%d to %d of %q: %q %v %d, want %q %v %d", from, to, textOfFabric(f), textOfFabric(got), moves, code, textOfFabric(want), wantMoves, wantCode)
	}
	if code != impl.FabDone {
		return 0, code
	}
	if !impl.FabricOk(got) {
		t.Fatal("not right behind it:", textOfFabric(f), from, to, textOfFabric(got))
	}
	for i, p := range f.Paths {
		q := got.Paths[i]
		moved := slices.Contains(moves, impl.Move{From: q.From, Mid: q.Mid})
		if q.From != p.From || q.To != p.To || moved != (q.Mid != p.Mid) {
			t.Fatal("not what was moved:", textOfFabric(f), from, to, textOfFabric(got), moves)
		}
	}
	strength := impl.Strength(f.Ports, f.Mid)
	if strength == 2 && len(moves) != 0 {
		t.Fatal("moved at Strength 2:", textOfFabric(f), from, to, moves)
	}
	return len(moves), code
}

// connectAll tries each inlet with each outlet, and those next to their ends.
func connectAll(t *testing.T, f impl.Fabric, told map[[2]int]int) {
	t.Helper()
	for from := -1; from <= f.Sides*f.Ports; from++ {
		for to := -1; to <= f.Sides*f.Ports; to++ {
			moves, code := checkConnect(t, f, from, to)
			told[[2]int{code, moves}]++
			if code == impl.FabBlocked && impl.Strength(f.Ports, f.Mid) > 0 {
				t.Fatal("blocked with Strength 1 or more:", textOfFabric(f), from, to)
			}
		}
	}
}

func TestConnectInEveryFabric(t *testing.T) {
	told := map[[2]int]int{}
	for _, size := range [][3]int{{1, 1, 1}, {1, 1, 2}, {1, 2, 1}, {1, 2, 2}, {1, 3, 2}, {1, 3, 3}, {2, 1, 1}, {2, 1, 2}, {2, 2, 1}, {2, 2, 2}, {2, 2, 3}, {3, 1, 1}} {
		everyFabric(size[0], size[1], size[2], func(f impl.Fabric) { connectAll(t, f, told) })
	}
	for _, code := range []int{impl.FabDone, impl.FabBad, impl.FabBusy, impl.FabBlocked} {
		if told[[2]int{code, 0}] == 0 {
			t.Error("never told", code)
		}
	}
	if told[[2]int{impl.FabDone, 1}] == 0 {
		t.Error("never moved")
	}
}

func TestConnectInDrawnFabrics(t *testing.T) {
	told := map[[2]int]int{}
	d := drawn(11)
	for sides := 1; sides <= impl.MaxSides; sides++ {
		for ports := 1; ports <= impl.MaxPorts; ports++ {
			for mids := 1; mids <= impl.MaxMid; mids++ {
				f := drawFabric(&d, sides, ports, mids, 12*sides)
				connectAll(t, f, told)
			}
		}
	}
	for range 150 {
		ports := 2 + d.below(3)
		connectAll(t, drawFabric(&d, 4+d.below(3), ports, ports, 150), told)
	}
	for moves := 1; moves <= 4; moves++ {
		if told[[2]int{impl.FabDone, moves}] == 0 {
			t.Error("no chain of so many moves:", moves, told)
		}
	}
}
