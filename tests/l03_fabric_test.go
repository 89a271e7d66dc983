package tests

import (
	"fmt"
	"math"
	"slices"
	"strings"
	"testing"

	"loop.example/g00052/impl"
)

// The tests of the fabric write one as text: Sides, Ports and Mid first, then
// each path as its From, its To and its Mid: "3.2.4 0-5/1 2-0/3" has three
// switches on each side with two ports, four between, and two paths.

func fabricOf(text string) impl.Fabric {
	words := strings.Fields(text)
	var f impl.Fabric
	mustScan(words[0], "%d.%d.%d", &f.Sides, &f.Ports, &f.Mid)
	for _, word := range words[1:] {
		var p impl.Path
		mustScan(word, "%d-%d/%d", &p.From, &p.To, &p.Mid)
		f.Paths = append(f.Paths, p)
	}
	return f
}

// mustScan ends the run of a test that has a text written wrong.
func mustScan(word string, form string, to ...any) {
	if n, err := fmt.Sscanf(word, form, to...); err != nil || n != len(to) {
		panic("not as " + form + ": " + word)
	}
}

func textOfFabric(f impl.Fabric) string {
	words := []string{fmt.Sprintf("%d.%d.%d", f.Sides, f.Ports, f.Mid)}
	for _, p := range f.Paths {
		words = append(words, fmt.Sprintf("%d-%d/%d", p.From, p.To, p.Mid))
	}
	return strings.Join(words, " ")
}

// sameFabric takes nil and an empty list as the same, as the document does.
func sameFabric(f impl.Fabric, g impl.Fabric) bool {
	return f.Sides == g.Sides && f.Ports == g.Ports && f.Mid == g.Mid && slices.Equal(f.Paths, g.Paths)
}

func copyOfFabric(f impl.Fabric) impl.Fabric {
	f.Paths = slices.Clone(f.Paths)
	return f
}

// everyFabric visits all that are right with so many sides, ports and mids,
// with their paths ordered by From.
func everyFabric(sides int, ports int, mids int, visit func(f impl.Fabric)) {
	f := impl.Fabric{Sides: sides, Ports: ports, Mid: mids}
	var grow func(from int)
	grow = func(from int) {
		if from == sides*ports {
			visit(copyOfFabric(f))
			return
		}
		grow(from + 1)
		for to := range sides * ports {
			for mid := range mids {
				p := impl.Path{From: from, To: to, Mid: mid}
				if !hasRoomFor(f, p) {
					continue
				}
				f.Paths = append(f.Paths, p)
				grow(from + 1)
				f.Paths = f.Paths[:len(f.Paths)-1]
			}
		}
	}
	grow(0)
}

func hasRoomFor(f impl.Fabric, p impl.Path) bool {
	for _, q := range f.Paths {
		alike := q.From == p.From || q.To == p.To
		near := q.From/f.Ports == p.From/f.Ports || q.To/f.Ports == p.To/f.Ports
		if alike || near && q.Mid == p.Mid {
			return false
		}
	}
	return true
}

// drawn numbers are the same in each run.
type drawn uint32

func (d *drawn) below(n int) int {
	*d = *d*1664525 + 1013904223
	return int(*d>>8) % n
}

// drawFabric tries to lay so many paths anywhere, in any order; those that
// find no room are left out.
func drawFabric(d *drawn, sides int, ports int, mids int, tries int) impl.Fabric {
	f := impl.Fabric{Sides: sides, Ports: ports, Mid: mids}
	for range tries {
		p := impl.Path{From: d.below(sides * ports), To: d.below(sides * ports), Mid: d.below(mids)}
		if hasRoomFor(f, p) {
			f.Paths = append(f.Paths, p)
		}
	}
	return f
}

// wrongFabrics have one fault each, by what it is.
func wrongFabrics() map[string]string {
	return map[string]string{
		"no sides":                    "0.2.2",
		"sides below 0":               "-1.2.2",
		"one side too many":           "7.4.12",
		"no ports":                    "2.0.2",
		"ports below 0":               "2.-1.2",
		"sides and ports below 0":     "-2.-2.2",
		"one port too many":           "6.5.12",
		"no mid":                      "2.2.0",
		"mid below 0":                 "2.2.-1",
		"one mid too many":            "6.4.13",
		"nothing at all":              "0.0.0",
		"from below 0":                "2.2.2 -1-0/0",
		"from at the end":             "2.2.2 4-0/0",
		"to below 0":                  "2.2.2 0--1/0",
		"to at the end":               "2.2.2 0-4/0",
		"mid of a path below 0":       "2.2.2 0-0/-1",
		"mid of a path at the end":    "2.2.2 0-0/2",
		"mid within MaxMid but not f": "2.2.3 0-0/3",
		"an inlet twice":              "2.2.2 0-0/0 0-2/1",
		"an outlet twice":             "2.2.2 0-0/0 2-0/1",
		"a path twice":                "2.2.2 0-0/0 0-0/0",
		"one switch in, one Mid":      "2.2.2 0-0/0 1-2/0",
		"one switch out, one Mid":     "2.2.2 0-0/0 2-1/0",
		"one of each, one Mid":        "2.2.2 0-0/0 1-1/0",
		"last against first":          "3.2.2 2-2/0 0-4/0 3-5/1 5-3/0",
		"of a last switch in":         "6.4.12 20-0/11 23-4/11",
		"of a last switch out":        "6.4.12 0-20/11 4-23/11",
		"wrong behind right ones":     "2.2.2 0-0/0 1-2/1 3-1/2",
		"wrong ahead of right ones":   "2.2.2 3-4/0 0-0/0 1-2/1",
	}
}

func TestFabricOk(t *testing.T) {
	for _, text := range []string{
		"1.1.1", "1.1.12", "1.4.1", "6.1.1", "6.4.12", "2.2.2",
		"1.1.1 0-0/0",
		"1.1.12 0-0/11",
		"6.4.12 23-23/11 0-0/11",
		"6.4.12 0-23/0 23-0/0",
		"6.4.1 0-4/0 4-8/0 8-12/0 12-16/0 16-20/0 20-0/0",
		"2.2.2 0-0/0 1-1/1 2-3/0 3-2/1",
		"2.2.2 3-2/1 2-3/0 1-1/1 0-0/0",
		// Alike Mids at other switches are no fault, whatever the numbers.
		"2.2.1 0-2/0 2-0/0", "2.3.1 2-3/0 3-2/0", "3.1.1 0-0/0 1-1/0 2-2/0",
		"1.4.4 0-3/3 1-2/0 2-1/2 3-0/1",
	} {
		if !impl.FabricOk(fabricOf(text)) {
			t.Error("not taken:", text)
		}
	}
	for why, text := range wrongFabrics() {
		if impl.FabricOk(fabricOf(text)) {
			t.Error("taken:", why, text)
		}
	}
}

// Of 1 .. 6, 1 .. 4 and 1 .. 12 each end is met and passed with all of the others.
func TestFabricOkSizes(t *testing.T) {
	far := []int{math.MinInt, math.MinInt / 2, -2, 13, 100, math.MaxInt / 2, math.MaxInt}
	sizes := append(far, -1, 0, 1, 2, 3, 4, 5, 6, 7, 8, 9, 10, 11, 12)
	for _, sides := range sizes {
		for _, ports := range sizes {
			for _, mids := range sizes {
				f := impl.Fabric{Sides: sides, Ports: ports, Mid: mids}
				want := sides >= 1 && sides <= 6 && ports >= 1 && ports <= 4 && mids >= 1 && mids <= 12
				if impl.FabricOk(f) != want {
					t.Fatal(f, "want", want)
				}
			}
		}
	}
}

// Each size has its own ends of inlets, outlets and Mids.
func TestFabricOkEnds(t *testing.T) {
	far := []int{math.MinInt, math.MinInt / 2, math.MaxInt / 2, math.MaxInt}
	for sides := 1; sides <= impl.MaxSides; sides++ {
		for ports := 1; ports <= impl.MaxPorts; ports++ {
			for mids := 1; mids <= impl.MaxMid; mids++ {
				for n := -2; n <= 26; n++ {
					checkEnds(t, impl.Fabric{Sides: sides, Ports: ports, Mid: mids}, n)
				}
				for _, n := range far {
					checkEnds(t, impl.Fabric{Sides: sides, Ports: ports, Mid: mids}, n)
				}
			}
		}
	}
}

// checkEnds lays one path with n as its From, its To or its Mid.
func checkEnds(t *testing.T, f impl.Fabric, n int) {
	t.Helper()
	port, mid := n >= 0 && n < f.Sides*f.Ports, n >= 0 && n < f.Mid
	for _, c := range []struct {
		path impl.Path
		want bool
	}{{impl.Path{From: n}, port}, {impl.Path{To: n}, port}, {impl.Path{Mid: n}, mid}} {
		f.Paths = []impl.Path{c.path}
		if impl.FabricOk(f) != c.want {
			t.Fatal(f, "want", c.want)
		}
	}
}

// fineByCounting counts how often each inlet, outlet and way is taken.
func fineByCounting(f impl.Fabric) bool {
	taken := map[string]int{}
	for _, p := range f.Paths {
		if min(p.From, p.To, p.Mid) < 0 || max(p.From, p.To) >= f.Sides*f.Ports || p.Mid >= f.Mid {
			return false
		}
		taken[fmt.Sprint("inlet", p.From)]++
		taken[fmt.Sprint("outlet", p.To)]++
		taken[fmt.Sprint("in", p.From/f.Ports, p.Mid)]++
		taken[fmt.Sprint("out", p.To/f.Ports, p.Mid)]++
	}
	for _, n := range taken {
		if n > 1 {
			return false
		}
	}
	return true
}

func TestFabricOkOfAnyTwoPaths(t *testing.T) {
	var paths []impl.Path
	for from := -1; from <= 4; from++ {
		for to := -1; to <= 4; to++ {
			for mid := -1; mid <= 2; mid++ {
				paths = append(paths, impl.Path{From: from, To: to, Mid: mid})
			}
		}
	}
	count := map[bool]int{}
	for _, p := range paths {
		for _, q := range paths {
			f := impl.Fabric{Sides: 2, Ports: 2, Mid: 2, Paths: []impl.Path{p, q}}
			want := fineByCounting(f)
			count[want]++
			if impl.FabricOk(f) != want {
				t.Fatal(textOfFabric(f), "want", want)
			}
		}
	}
	if count[true] == 0 || count[false] == 0 {
		t.Error("one side alone was tried", count)
	}
}

// Full fabrics, and the same with one number of one path changed.
func TestFabricOkOfManyPaths(t *testing.T) {
	d := drawn(3)
	count := map[bool]int{}
	for range 600 {
		f := drawFabric(&d, 1+d.below(6), 1+d.below(4), 1+d.below(12), 200)
		if !impl.FabricOk(f) {
			t.Fatal("not taken", textOfFabric(f))
		}
		p := &f.Paths[d.below(len(f.Paths))]
		switch d.below(3) {
		case 0:
			p.From = d.below(f.Sides * f.Ports)
		case 1:
			p.To = d.below(f.Sides * f.Ports)
		default:
			p.Mid = d.below(f.Mid)
		}
		want := fineByCounting(f)
		count[want]++
		if impl.FabricOk(f) != want {
			t.Fatal(textOfFabric(f), "want", want)
		}
	}
	if count[true] < 20 || count[false] < 20 {
		t.Error("one side was hardly tried", count)
	}
}

// All inlets and all outlets can have a path; one path more is one too many.
func TestFabricOkFull(t *testing.T) {
	f := impl.Fabric{Sides: impl.MaxSides, Ports: impl.MaxPorts, Mid: impl.MaxMid}
	for x := range 24 {
		f.Paths = append(f.Paths, impl.Path{From: x, To: 23 - x, Mid: x % 4})
		if !impl.FabricOk(f) {
			t.Fatal("not taken", textOfFabric(f))
		}
	}
	for x := range 24 {
		more := copyOfFabric(f)
		more.Paths = append(more.Paths, impl.Path{From: x, To: x, Mid: 11})
		if impl.FabricOk(more) {
			t.Fatal("taken", textOfFabric(more))
		}
	}
	f.Paths = slices.Repeat(f.Paths, 10000)
	if impl.FabricOk(f) {
		t.Error("taken: each path ten thousand times")
	}
}
