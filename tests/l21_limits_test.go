package tests

import (
	"fmt"
	"math"
	"slices"
	"strings"
	"testing"

	"loop.example/g00052/impl"
)

// A limit is a number that a chapter names as the least or the greatest of
// something: each is taken where it is just met, and refused where it is passed by
// one.
type limit struct {
	what        string
	least, most int
	taken       func(n int) bool
}

// Where there is no end that could be passed.
const (
	noLeast = math.MinInt
	noMost  = math.MaxInt
)

func checkLimits(t *testing.T, limits []limit) {
	t.Helper()
	for _, l := range limits {
		for _, wrong := range l.wrongs() {
			t.Errorf("%s (%d .. %d): %s", l.what, l.least, l.most, wrong)
		}
	}
}

func (l limit) wrongs() []string {
	var list []string
	for _, n := range []int{l.least, l.most} {
		if n != noLeast && n != noMost && !l.taken(n) {
			list = append(list, fmt.Sprint(n, " is refused"))
		}
	}
	if l.least != noLeast && l.taken(l.least-1) {
		list = append(list, fmt.Sprint(l.least-1, " is taken"))
	}
	if l.most != noMost && l.taken(l.most+1) {
		list = append(list, fmt.Sprint(l.most+1, " is taken"))
	}
	return list
}

// upTo is a limit of how many there may be: less than none can't be asked for.
func upTo(what string, most int, taken func(n int) bool) limit {
	return limit{what, noLeast, most, taken}
}

// What is told of a limit itself, or all that rests on it would tell nothing.
func TestWrongLimits(t *testing.T) {
	taken := func(n int) bool { return n >= 3 && n <= 7 }
	checkLimits(t, []limit{{"both", 3, 7, taken}, {"the least", 3, noMost, taken}, {"the most", noLeast, 7, taken}, upTo("up to", 7, taken)})
	for _, wrong := range []limit{{"", 2, 7, taken}, {"", 4, 7, taken}, {"", 3, 6, taken}, {"", 3, 8, taken}, {"", 4, noMost, taken}, {"", 2, noMost, taken}, upTo("", 8, taken), upTo("", 6, taken)} {
		if len(wrong.wrongs()) != 1 {
			t.Error("not found", wrong.least, wrong.most)
		}
	}
}

// listOfCells are n cells that are full but the last, which has so many bytes.
func listOfCells(n, last int) [][16]byte {
	list := make([][16]byte, n)
	for i := range list {
		list[i][0] = byte(15 + 16*(i%8))
	}
	if n > 0 {
		list[n-1][0] = byte(last + 16*((n-1)%8) + 128)
	}
	return list
}

// P21: chapter 1.
func TestLimitsOfCells(t *testing.T) {
	fine := func(list [][16]byte) bool {
		_, code := impl.Uncells(list)
		return code == impl.CellOk
	}
	stuffs := func(bits []int) bool {
		_, ok := impl.Stuff(bits)
		return ok
	}
	unstuffs := func(bits []int) bool {
		_, ok := impl.Unstuff(bits)
		return ok
	}
	checkLimits(t, []limit{
		{"bytes of Cells", 1, 900, func(n int) bool { return len(impl.Cells(make([]byte, n))) > 0 }},
		{"cells of Uncells", 1, 60, func(n int) bool { return fine(listOfCells(n, 15)) }},
		{"bytes that count in the last cell", 1, 15, func(n int) bool { return fine(listOfCells(1, n)) }},
		{"bytes that count in a cell that is not the last", 15, noMost, func(n int) bool {
			list := listOfCells(2, 15)
			list[0][0] = byte(n)
			return fine(list)
		}},
		{"the place of Cut", 0, 24, func(n int) bool {
			_, ok := impl.Cut(make([]byte, 40), n)
			return ok
		}},
		{"bytes of Cut", 16, noMost, func(n int) bool {
			_, ok := impl.Cut(make([]byte, n), 0)
			return ok
		}},
		upTo("bits of Stuff", 2000, func(n int) bool { return stuffs(make([]int, n)) }),
		upTo("bits of Unstuff", 4000, func(n int) bool { return unstuffs(make([]int, n)) }),
		{"a bit of Stuff", 0, 1, func(n int) bool { return stuffs([]int{0, n}) }},
		{"a bit of Unstuff", 0, 1, func(n int) bool { return unstuffs([]int{0, n}) }},
		upTo("1 in a row", 5, func(n int) bool { return unstuffs(append(slices.Repeat([]int{1}, n), 0)) }),
	})
}

// legsFrom are n legs of lines from first on.
func legsFrom(first, n int) []impl.Leg {
	var legs []impl.Leg
	for line := range n {
		legs = append(legs, impl.Leg{Line: first + line})
	}
	return legs
}

// P21: chapter 2, what is a panel.
func TestLimitsOfPanels(t *testing.T) {
	calls := func(parked bool, n int) bool {
		return impl.PanelOk(impl.Panel{Lines: 40, Calls: []impl.Call{{Parked: parked, Legs: legsFrom(0, n)}}})
	}
	withLine := func(lines, n int) bool {
		return impl.PanelOk(impl.Panel{Lines: lines, Calls: []impl.Call{{Legs: []impl.Leg{{Line: 3}, {Line: n}}}}})
	}
	all := impl.Panel{Lines: 40, Calls: []impl.Call{{Legs: legsFrom(0, 8)}, {Legs: legsFrom(8, 8)}, {Legs: legsFrom(16, 8)}, {Legs: legsFrom(24, 8)}, {Legs: legsFrom(32, 8)}}}
	mixes := func(levels []int) bool {
		_, ok := impl.Mix(all, levels)
		return ok
	}
	checkLimits(t, []limit{
		{"Lines", 1, 40, func(n int) bool { return impl.PanelOk(impl.Panel{Lines: n}) }},
		{"Lines of Mix", 1, 40, func(n int) bool {
			_, ok := impl.Mix(impl.Panel{Lines: n}, make([]int, max(n, 0)))
			return ok
		}},
		{"legs", 2, 8, func(n int) bool { return calls(false, n) }},
		{"legs of a call that is Parked", 1, 8, func(n int) bool { return calls(true, n) }},
		{"the Line of a leg among 40", 0, 39, func(n int) bool { return withLine(40, n) }},
		{"the Line of a leg among 5", 0, 4, func(n int) bool { return withLine(5, n) }},
		{"a line of Heard", 0, 39, func(n int) bool { return len(impl.Heard(all, n)) == 7 }},
		{"the one line of OneCall", 0, 39, func(n int) bool { return impl.OneCall(all, n, n) }},
		{"levels of Mix", 40, 40, func(n int) bool { return mixes(make([]int, n)) }},
		{"a level of Mix", -32767, 32767, func(n int) bool { return mixes(append([]int{n}, make([]int, 39)...)) }},
		{"the last level of Mix", -32767, 32767, func(n int) bool { return mixes(append(make([]int, 39), n)) }},
		{"the sum that is heard", -32767, 32767, func(n int) bool {
			levels := make([]int, 40)
			levels[1], levels[2] = n/2, n-n/2
			heard, ok := impl.Mix(all, levels)
			return ok && heard[0] == n
		}},
	})
}

// P21: chapter 2, what is done with a panel.
func TestLimitsOfPanelOps(t *testing.T) {
	does := func(p impl.Panel, kind, a, b int) int {
		_, code := impl.DoPanel(p, impl.PanelOp{Kind: kind, A: a, B: b})
		return code
	}
	empty := impl.Panel{Lines: 40}
	two := func(first, second int, parked bool) impl.Panel {
		p := impl.Panel{Lines: 40}
		for i, n := range []int{first, second} {
			if n > 0 {
				p.Calls = append(p.Calls, impl.Call{Parked: parked, Legs: legsFrom(20*i, n)})
			}
		}
		return p
	}
	limits := []limit{
		{"Kind", 1, 6, func(n int) bool { return does(empty, n, 5, 0) != impl.PanelBad }},
		{"B of PanelJoin", 0, 39, func(n int) bool { return does(empty, impl.PanelJoin, 5, n) == impl.PanelDone }},
		upTo("legs behind a join of a free line", 8, func(n int) bool { return does(two(n-1, 0, false), impl.PanelJoin, 0, 39) == impl.PanelDone }),
		upTo("legs behind a join by a free line", 8, func(n int) bool { return does(two(n-1, 0, false), impl.PanelJoin, 39, 0) == impl.PanelDone }),
		upTo("legs behind a join of two calls", 8, func(n int) bool { return does(two(n-2, 2, false), impl.PanelJoin, 0, 20) == impl.PanelDone }),
		upTo("legs behind a join of two calls that are as long", 8, func(n int) bool { return does(two(n/2, n-n/2, false), impl.PanelJoin, 0, 20) == impl.PanelDone }),
		{"legs behind a pick", 2, 8, func(n int) bool { return does(two(n-1, 0, true), impl.PanelPick, 39, 0) == impl.PanelDone }},
		upTo("ops", 200, func(n int) bool {
			p, codes := impl.RunPanel(empty, make([]impl.PanelOp, n))
			return p.Lines == 40 && len(codes) == n
		}),
	}
	for kind := impl.PanelJoin; kind <= impl.PanelPick; kind++ {
		limits = append(limits, limit{fmt.Sprint("A of Kind ", kind), 0, 39, func(n int) bool {
			b := 0
			if kind == impl.PanelJoin {
				b = 5
			}
			return does(empty, kind, n, b) != impl.PanelBad
		}})
		if kind != impl.PanelJoin {
			limits = append(limits, limit{fmt.Sprint("B of Kind ", kind), 0, 0, func(n int) bool { return does(empty, kind, 7, n) != impl.PanelBad }})
		}
	}
	checkLimits(t, limits)
}

// P21: chapter 3.
func TestLimitsOfFabrics(t *testing.T) {
	with := func(sides, ports, mid int, paths ...impl.Path) impl.Fabric {
		return impl.Fabric{Sides: sides, Ports: ports, Mid: mid, Paths: paths}
	}
	connects := func(f impl.Fabric, from, to int) int {
		_, _, code := impl.Connect(f, from, to)
		return code
	}
	releases := func(f impl.Fabric, from int) int {
		_, code := impl.Release(f, from)
		return code
	}
	limits := []limit{
		{"Sides", 1, 6, func(n int) bool { return impl.FabricOk(with(n, 4, 12)) }},
		{"Ports", 1, 4, func(n int) bool { return impl.FabricOk(with(6, n, 12)) }},
		{"Mid", 1, 12, func(n int) bool { return impl.FabricOk(with(6, 4, n)) }},
		{"Sides of Connect", 1, 6, func(n int) bool { return connects(with(n, 1, 1), 0, 0) == impl.FabDone }},
		{"Ports of Connect", 1, 4, func(n int) bool { return connects(with(1, n, 1), 0, 0) == impl.FabDone }},
		{"Mid of Connect", 1, 12, func(n int) bool { return connects(with(1, 1, n), 0, 0) == impl.FabDone }},
		{"ports of Strength", 1, 4, func(n int) bool { return impl.Strength(n, 12) == 2 }},
		upTo("paths that leave one switch over three Mid", 3, func(n int) bool {
			f := with(4, 4, 3)
			code := impl.FabDone
			for i := range n {
				f, _, code = impl.Connect(f, i, 4*i)
			}
			return code == impl.FabDone
		}),
		upTo("paths that come to one switch over three Mid", 3, func(n int) bool {
			f := with(4, 4, 3)
			code := impl.FabDone
			for i := range n {
				f, _, code = impl.Connect(f, 4*i, i)
			}
			return code == impl.FabDone
		}),
	}
	for ports := 1; ports <= 4; ports++ {
		limits = append(limits,
			limit{fmt.Sprint("mid of Strength 2 of ", ports), 2*ports - 1, noMost, func(n int) bool { return impl.Strength(ports, n) == 2 }},
			limit{fmt.Sprint("mid of Strength 1 of ", ports), ports, noMost, func(n int) bool { return impl.Strength(ports, n) >= 1 }})
	}
	for _, size := range [][3]int{{6, 4, 12}, {4, 4, 4}, {2, 3, 2}, {1, 1, 1}} {
		f, most := with(size[0], size[1], size[2]), size[0]*size[1]-1
		name := fmt.Sprint(" of ", size)
		limits = append(limits,
			limit{"From" + name, 0, most, func(n int) bool { return impl.FabricOk(with(size[0], size[1], size[2], impl.Path{From: n})) }},
			limit{"To" + name, 0, most, func(n int) bool { return impl.FabricOk(with(size[0], size[1], size[2], impl.Path{To: n})) }},
			limit{"Mid of a path" + name, 0, size[2] - 1, func(n int) bool { return impl.FabricOk(with(size[0], size[1], size[2], impl.Path{Mid: n})) }},
			limit{"from of Connect" + name, 0, most, func(n int) bool { return connects(f, n, 0) == impl.FabDone }},
			limit{"to of Connect" + name, 0, most, func(n int) bool { return connects(f, 0, n) == impl.FabDone }},
			limit{"from of Release" + name, 0, most, func(n int) bool { return releases(f, n) == impl.FabBusy }})
	}
	checkLimits(t, limits)
}

// P21: chapter 4, what are digits and rules.
func TestLimitsOfRules(t *testing.T) {
	fine := func(change func(r *impl.Rule)) bool {
		r := impl.Rule{Prefix: "12", Least: 4, Most: 8, Route: 5, Strip: 1, Add: "00"}
		change(&r)
		return impl.RulesOk([]impl.Rule{r})
	}
	checkLimits(t, []limit{
		upTo("digits", 20, func(n int) bool { return impl.Dial(nil, ones(n)).Code != impl.DialBad }),
		upTo("rules", 60, func(n int) bool { return impl.RulesOk(manyRules(n)) }),
		upTo("rules of Dial", 60, func(n int) bool { return impl.Dial(manyRules(n), "1").Code != impl.DialBad }),
		{"digits of a Prefix", 1, 20, func(n int) bool { return impl.RulesOk([]impl.Rule{{Prefix: ones(n), Least: 20, Most: 20}}) }},
		{"Least, by the Prefix and Most", 2, 8, func(n int) bool { return fine(func(r *impl.Rule) { r.Least = n }) }},
		{"Most, by Least and MaxDigits", 4, 20, func(n int) bool { return fine(func(r *impl.Rule) { r.Most, r.Add = n, "" }) }},
		{"Route", 0, 1000, func(n int) bool { return fine(func(r *impl.Rule) { r.Route = n }) }},
		{"Strip, by Least", 0, 4, func(n int) bool { return fine(func(r *impl.Rule) { r.Strip = n }) }},
		upTo("digits of Add", 20, func(n int) bool {
			return impl.RulesOk([]impl.Rule{{Prefix: "1", Least: 20, Most: 20, Strip: 20, Add: ones(n)}})
		}),
		upTo("digits of Add and of Most less Strip", 6, func(n int) bool {
			return impl.RulesOk([]impl.Rule{{Prefix: "1", Least: 1, Most: 15, Strip: 1, Add: ones(n)}})
		}),
		{"Strip that Add needs", 3, noMost, func(n int) bool {
			return impl.RulesOk([]impl.Rule{{Prefix: "1", Least: 9, Most: 15, Strip: n, Add: ones(8)}})
		}},
		upTo("lines of ReadRules", 60, func(n int) bool {
			text := ""
			for i := range n {
				text += fmt.Sprintf("%d 3-3 %d 0 -\n", 100+i, i)
			}
			rules, line := impl.ReadRules(text)
			return line == 0 && len(rules) == n
		}),
		upTo("rules of ShowRules", 60, func(n int) bool { return strings.Count(impl.ShowRules(manyRules(n)), "\n") == n }),
		{"digits of an emergency", 3, 5, func(n int) bool {
			// They are the beginning of another Prefix too, which is nothing to an emergency.
			rules := []impl.Rule{{Prefix: "1", Least: 3, Most: 5}, {Prefix: ones(7), Least: 7, Most: 7, Route: 1}}
			return impl.Dial(rules, ones(n)).Code == impl.DialDone
		}},
		{"Least of Dial", 4, noMost, func(n int) bool {
			return impl.Dial([]impl.Rule{{Prefix: "1", Least: 4, Most: 20, Route: 1}}, ones(n)).Code == impl.DialMay
		}},
		{"Most of Dial", 4, 6, func(n int) bool {
			code := impl.Dial([]impl.Rule{{Prefix: "1", Least: 4, Most: 6, Route: 1}}, ones(n)).Code
			return code == impl.DialMay || code == impl.DialDone
		}},
	})
}

// P21: chapter 4, what is pressed and what has moved.
func TestLimitsOfPressesAndTables(t *testing.T) {
	rules := []impl.Rule{{Prefix: "1", Least: 2, Most: 2, Route: 1}}
	overlaps := func(wait int, presses ...impl.Press) int {
		d, _ := impl.Overlap(rules, presses, wait)
		return d.Code
	}
	ports := func(table []impl.Ported, number string) bool {
		_, ok := impl.Port(table, number)
		return ok
	}
	checkLimits(t, []limit{
		upTo("presses", 20, func(n int) bool {
			return overlaps(5, slices.Repeat([]impl.Press{{Tick: 1, Digit: "*"}}, n)...) != impl.DialBad
		}),
		upTo("rules of Overlap", 60, func(n int) bool {
			d, _ := impl.Overlap(manyRules(n), nil, 5)
			return d.Code != impl.DialBad
		}),
		{"wait", 1, 1000, func(n int) bool { return overlaps(n) != impl.DialBad }},
		{"Tick of a press", 0, 1000000000, func(n int) bool { return overlaps(5, impl.Press{Tick: n, Digit: "1"}) != impl.DialBad }},
		{"bytes of a Digit", 1, 1, func(n int) bool { return overlaps(5, impl.Press{Tick: 1, Digit: ones(n)}) != impl.DialBad }},
		{"ticks between two presses", 0, 7, func(n int) bool {
			return overlaps(7, impl.Press{Tick: 50, Digit: "1"}, impl.Press{Tick: 50 + n, Digit: "1"}) == impl.DialDone
		}},
		{"ticks between two presses of the longest wait", 0, 1000, func(n int) bool {
			return overlaps(1000, impl.Press{Tick: 50, Digit: "1"}, impl.Press{Tick: 50 + n, Digit: "1"}) == impl.DialDone
		}},
		upTo("those in a table", 60, func(n int) bool {
			var table []impl.Ported
			for i := range n {
				table = append(table, impl.Ported{Number: fmt.Sprint(100 + i), To: "9"})
			}
			return ports(table, "1")
		}),
		{"digits of the number", 1, 20, func(n int) bool { return ports(nil, ones(n)) }},
		{"digits of a Number", 1, 20, func(n int) bool { return ports([]impl.Ported{{Number: ones(n), To: "2"}}, "3") }},
		{"digits of To", 1, 20, func(n int) bool { return ports([]impl.Ported{{Number: "2", To: ones(n)}}, "3") }},
		upTo("those that are followed", 60, func(n int) bool {
			var table []impl.Ported
			for i := range n {
				table = append(table, impl.Ported{Number: fmt.Sprint(100 + i), To: fmt.Sprint(101 + i)})
			}
			number, ok := impl.Port(table, "100")
			return ok && number == fmt.Sprint(100+n)
		}),
	})
}
