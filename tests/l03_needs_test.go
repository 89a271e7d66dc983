package tests

import (
	"math"
	"slices"
	"testing"

	"loop.example/g00052/impl"
)

func TestRelease(t *testing.T) {
	for _, c := range []struct {
		why    string
		fabric string
		from   int
		want   string
		code   int
	}{
		{"the one path", "1.1.1 0-0/0", 0, "1.1.1", impl.FabDone},
		{"the first", "2.2.2 3-0/0 1-1/1 0-2/0", 3, "2.2.2 1-1/1 0-2/0", impl.FabDone},
		{"one between", "2.2.2 3-0/0 1-1/1 0-2/0", 1, "2.2.2 3-0/0 0-2/0", impl.FabDone},
		{"the last", "2.2.2 3-0/0 1-1/1 0-2/0", 0, "2.2.2 3-0/0 1-1/1", impl.FabDone},
		{"the last inlet of all", "6.4.12 0-0/0 23-23/11", 23, "6.4.12 0-0/0", impl.FabDone},
		{"one that only ends there", "2.2.2 3-0/0 1-1/1", 0, "2.2.2 3-0/0 1-1/1", impl.FabBusy},
		{"an empty fabric", "1.1.1", 0, "1.1.1", impl.FabBusy},
		{"a free last inlet", "2.2.2 0-3/0", 3, "2.2.2 0-3/0", impl.FabBusy},
		{"below 0", "2.2.2 0-0/0", -1, "2.2.2 0-0/0", impl.FabBad},
		{"at the end", "2.2.2 0-0/0", 4, "2.2.2 0-0/0", impl.FabBad},
		{"far below 0", "2.2.2 0-0/0", math.MinInt, "2.2.2 0-0/0", impl.FabBad},
		{"far behind", "2.2.2 0-0/0", math.MaxInt, "2.2.2 0-0/0", impl.FabBad},
		{"an inlet of a greater fabric", "6.3.12 0-0/0", 18, "6.3.12 0-0/0", impl.FabBad},
	} {
		got, code := impl.Release(fabricOf(c.fabric), c.from)
		if code != c.code || textOfFabric(got) != c.want {
			t.Errorf("%s: %d of %q: %q %d, want %q %d", c.why, c.from, c.fabric, textOfFabric(got), code, c.want, c.code)
		}
	}
}

func TestReleaseOfWrongFabrics(t *testing.T) {
	for why, text := range wrongFabrics() {
		for _, from := range []int{-1, 0, 1, 2, 3, 4, 20, 99} {
			if got, code := impl.Release(fabricOf(text), from); code != impl.FabBad || textOfFabric(got) != text {
				t.Errorf("%s: %d of %q: %q %d", why, from, text, textOfFabric(got), code)
			}
		}
	}
}

// checkReleases takes each inlet's path away; what is connected and then
// released is as it was but for what was moved.
func checkReleases(t *testing.T, f impl.Fabric) {
	t.Helper()
	for from := range f.Sides * f.Ports {
		got, code := impl.Release(f, from)
		left := slices.DeleteFunc(slices.Clone(f.Paths), func(p impl.Path) bool { return p.From == from })
		want := impl.FabDone
		if len(left) == len(f.Paths) {
			want = impl.FabBusy
		}
		if code != want || !slices.Equal(got.Paths, left) || got.Sides != f.Sides || got.Ports != f.Ports || got.Mid != f.Mid {
			t.Fatal("released:", textOfFabric(f), from, textOfFabric(got), code)
		}
		for to := range f.Sides * f.Ports {
			g, moves, code := impl.Connect(f, from, to)
			if code != impl.FabDone {
				continue
			}
			back, code := impl.Release(g, from)
			if code != impl.FabDone || !sameFabric(back, movedBy(f, moves)) {
				t.Fatal("connected and released:", textOfFabric(f), from, to, moves, textOfFabric(back), code)
			}
		}
	}
}

func movedBy(f impl.Fabric, moves []impl.Move) impl.Fabric {
	g := copyOfFabric(f)
	for i, p := range g.Paths {
		for _, move := range moves {
			if move.From == p.From {
				g.Paths[i].Mid = move.Mid
			}
		}
	}
	return g
}

func TestReleaseInDrawnFabrics(t *testing.T) {
	everyFabric(2, 2, 2, func(f impl.Fabric) { checkReleases(t, f) })
	d := drawn(5)
	for range 150 {
		ports := 1 + d.below(4)
		checkReleases(t, drawFabric(&d, 1+d.below(6), ports, min(12, ports+d.below(4)), 60))
	}
}

func TestNeeds(t *testing.T) {
	for _, c := range []struct {
		why    string
		fabric string
		want   []impl.Path
	}{
		{"an empty fabric", "2.2.2", nil},
		{"a full one", "2.2.2 0-0/0 1-1/1 2-2/0 3-3/1", nil},
		{"room for all", "2.2.3 0-2/0 2-0/1", nil},
		{"one pair", "3.2.2 0-2/0 2-0/1 3-4/0", []impl.Path{{From: 1, To: 1, Mid: -1}}},
		{"two pairs", "2.2.2 0-2/0 2-0/1", []impl.Path{{From: 1, To: 1, Mid: -1}, {From: 3, To: 3, Mid: -1}}},
		{"ordered by From, whatever the paths are", "2.2.2 2-0/1 0-2/0", []impl.Path{{From: 1, To: 1, Mid: -1}, {From: 3, To: 3, Mid: -1}}},
		{"ordered by To where From is the same", "2.3.2 0-3/0 3-0/1", []impl.Path{
			{From: 1, To: 1, Mid: -1}, {From: 1, To: 2, Mid: -1}, {From: 2, To: 1, Mid: -1}, {From: 2, To: 2, Mid: -1},
			{From: 4, To: 4, Mid: -1}, {From: 4, To: 5, Mid: -1}, {From: 5, To: 4, Mid: -1}, {From: 5, To: 5, Mid: -1}}},
		{"blocked pairs too", "1.2.1 0-0/0", []impl.Path{{From: 1, To: 1, Mid: -1}}},
		{"a switch in with none free", "2.2.1 0-3/0", []impl.Path{
			{From: 1, To: 0, Mid: -1}, {From: 1, To: 1, Mid: -1}, {From: 1, To: 2, Mid: -1},
			{From: 2, To: 2, Mid: -1}, {From: 3, To: 2, Mid: -1}}},
		{"of the last ports", "6.2.2 10-0/0 0-10/1", []impl.Path{{From: 1, To: 1, Mid: -1}, {From: 11, To: 11, Mid: -1}}},
	} {
		f := fabricOf(c.fabric)
		if !impl.FabricOk(f) {
			t.Error(c.why, "is a wrong fabric", c.fabric)
		}
		got := impl.Needs(f)
		if !slices.Equal(got, c.want) {
			t.Errorf("%s: %q: %v, want %v", c.why, c.fabric, got, c.want)
		}
	}
}

func TestNeedsOfWrongFabrics(t *testing.T) {
	for why, text := range wrongFabrics() {
		if got := impl.Needs(fabricOf(text)); len(got) != 0 {
			t.Error(why, text, got)
		}
	}
}

// checkNeeds asks of each pair whether connecting it moves another or is
// blocked: these pairs, in this order, are what Needs tells.
func checkNeeds(t *testing.T, f impl.Fabric) int {
	t.Helper()
	var want []impl.Path
	for from := range f.Sides * f.Ports {
		for to := range f.Sides * f.Ports {
			moves, code := checkConnect(t, f, from, to)
			if moves > 0 || code == impl.FabBlocked {
				want = append(want, impl.Path{From: from, To: to, Mid: -1})
			}
		}
	}
	if got := impl.Needs(f); !slices.Equal(got, want) {
		t.Fatal(textOfFabric(f), "needs", got, "want", want)
	}
	if impl.Strength(f.Ports, f.Mid) == 2 && len(want) != 0 {
		t.Fatal("needs moves at Strength 2:", textOfFabric(f), want)
	}
	return len(want)
}

func TestNeedsIsWhatNeedsMoves(t *testing.T) {
	for _, size := range [][3]int{{1, 2, 1}, {1, 2, 2}, {2, 1, 1}, {2, 2, 1}, {2, 2, 2}, {2, 2, 3}} {
		everyFabric(size[0], size[1], size[2], func(f impl.Fabric) { checkNeeds(t, f) })
	}
	d := drawn(8)
	none, some := 0, 0
	for range 400 {
		if checkNeeds(t, drawFabric(&d, 1+d.below(6), 1+d.below(4), 1+d.below(12), 80)) > 0 {
			some++
		} else {
			none++
		}
	}
	if none < 20 || some < 20 {
		t.Error("one side was hardly tried", none, some)
	}
}

func TestStrength(t *testing.T) {
	for _, c := range []struct{ ports, weak, strong int }{{1, 1, 1}, {2, 2, 3}, {3, 3, 5}, {4, 4, 7}} {
		for mid := -3; mid <= 30; mid++ {
			want := 0
			if mid >= c.weak {
				want = 1
			}
			if mid >= c.strong {
				want = 2
			}
			if got := impl.Strength(c.ports, mid); got != want {
				t.Error(c.ports, mid, got, "want", want)
			}
		}
		if impl.Strength(c.ports, math.MinInt) != 0 || impl.Strength(c.ports, math.MaxInt) != 2 {
			t.Error("far", c.ports)
		}
	}
	for _, ports := range []int{math.MinInt, math.MinInt/2 + 1, -4, -1, 0, 5, 6, math.MaxInt/2 + 1, math.MaxInt} {
		for _, mid := range []int{math.MinInt, -1, 0, 1, 5, 9, 12, 100, math.MaxInt} {
			if got := impl.Strength(ports, mid); got != 0 {
				t.Error(ports, mid, got)
			}
		}
	}
}

// runFabric connects and releases what is drawn, from an empty fabric on, and
// counts the codes of connecting and the moves it took.
func runFabric(t *testing.T, d *drawn, f impl.Fabric, steps int) (codes [4]int, moved int) {
	t.Helper()
	ends := f.Sides * f.Ports
	for range steps {
		if d.below(4) == 0 {
			f, _ = impl.Release(f, d.below(ends))
			continue
		}
		from, to := d.below(ends), d.below(ends)
		moves, code := checkConnect(t, f, from, to)
		codes[code]++
		moved += moves
		f, _, _ = impl.Connect(f, from, to)
	}
	return codes, moved
}

// With Strength 1 none is blocked, with 2 none moves another; with one less
// each of both happens.
func TestStrengthOfRunningFabrics(t *testing.T) {
	var blocked, moved [3]int
	d := drawn(21)
	for sides := 1; sides <= impl.MaxSides; sides++ {
		for ports := 1; ports <= impl.MaxPorts; ports++ {
			for mids := 1; mids <= impl.MaxMid; mids++ {
				strength := impl.Strength(ports, mids)
				codes, moves := runFabric(t, &d, impl.Fabric{Sides: sides, Ports: ports, Mid: mids}, 150)
				blocked[strength] += codes[impl.FabBlocked]
				moved[strength] += moves
				if codes[impl.FabDone] == 0 {
					t.Error("nothing was connected", sides, ports, mids)
				}
			}
		}
	}
	if blocked[0] == 0 || blocked[1] != 0 || blocked[2] != 0 {
		t.Error("blocked by strength", blocked)
	}
	if moved[1] == 0 || moved[2] != 0 {
		t.Error("moved by strength", moved)
	}
}

// A fabric with as many mids as ports takes every inlet and every outlet.
func TestFabricFills(t *testing.T) {
	d := drawn(2)
	for sides := 1; sides <= impl.MaxSides; sides++ {
		for ports := 1; ports <= impl.MaxPorts; ports++ {
			f := impl.Fabric{Sides: sides, Ports: ports, Mid: ports}
			var left []int
			for to := range sides * ports {
				left = append(left, to)
			}
			for from := range sides * ports {
				at := d.below(len(left))
				g, _, code := impl.Connect(f, from, left[at])
				if code != impl.FabDone {
					t.Fatal(textOfFabric(f), from, left[at], code)
				}
				left = slices.Delete(left, at, at+1)
				f = g
			}
			if !impl.FabricOk(f) || len(f.Paths) != sides*ports || len(impl.Needs(f)) != 0 {
				t.Error(textOfFabric(f))
			}
		}
	}
}
