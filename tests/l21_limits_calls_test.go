package tests

import (
	"fmt"
	"slices"
	"strings"
	"testing"

	"loop.example/g00052/impl"
)

// P21: chapter 5, what is a duo.
func TestLimitsOfDuos(t *testing.T) {
	halves := func(state0, call0, state1, call1 int) impl.Duo {
		return impl.Duo{Halves: [2]impl.Half{{State: state0, Call: call0}, {State: state1, Call: call1}}}
	}
	with := func(s impl.Sig) bool {
		d := halves(impl.HalfTalking, 9, impl.HalfTalking, 9)
		d.Way = []impl.Sig{s}
		return impl.DuoOk(d)
	}
	checkLimits(t, []limit{
		{"State of half 0", 0, 4, func(n int) bool { return impl.DuoOk(halves(n, 5, 0, 5)) }},
		{"State of half 1", 0, 4, func(n int) bool { return impl.DuoOk(halves(0, 5, n, 5)) }},
		{"State of half 0 ahead of HalfOffered", 0, 1, func(n int) bool { return impl.DuoOk(halves(n, 5, 0, 5)) }},
		{"State of half 1 around HalfCalling", 2, 4, func(n int) bool { return impl.DuoOk(halves(0, 5, n, 5)) }},
		{"Call of half 0", 0, 1000, func(n int) bool { return impl.DuoOk(halves(0, n, 0, min(n, 0))) }},
		{"Call of both", 0, 1000, func(n int) bool { return impl.DuoOk(halves(0, n, 0, n)) }},
		{"Call of half 1", 0, 7, func(n int) bool { return impl.DuoOk(halves(0, 7, 0, n)) }},
		{"To", 0, 1, func(n int) bool { return with(impl.Sig{To: n, Kind: 1}) }},
		{"Kind of a signal", 1, 4, func(n int) bool { return with(impl.Sig{Kind: n}) }},
		{"Call of a signal", 0, 9, func(n int) bool { return with(impl.Sig{Kind: 1, Call: n}) }},
		upTo("signals on the way", 40, func(n int) bool {
			return impl.DuoOk(impl.Duo{Way: slices.Repeat([]impl.Sig{{Kind: 1}}, n)})
		}),
	})
}

// P21: chapter 5, what may be with a duo.
func TestLimitsOfEvents(t *testing.T) {
	// Each kind may be now, at its half or place 0.
	plain := impl.Duo{Halves: [2]impl.Half{{State: impl.HalfIdle, Call: 5}, {State: impl.HalfOffered, Call: 5}}}
	withWay := func(d impl.Duo, n int) impl.Duo {
		d.Way = slices.Repeat([]impl.Sig{{Kind: impl.SigAck}}, n)
		return d
	}
	does := func(d impl.Duo, kind, at int) bool {
		_, ok := impl.DoEvent(d, impl.Event{Kind: kind, At: at})
		return ok
	}
	talking := impl.Duo{Halves: [2]impl.Half{{State: impl.HalfTalking, Call: 5}, {State: impl.HalfTalking, Call: 5}}}
	calling := impl.Duo{Halves: [2]impl.Half{{State: impl.HalfCalling, Call: 5}, {State: impl.HalfClearing, Call: 5}}}
	limits := []limit{
		{"Kind", 1, 7, func(n int) bool {
			at := 0
			if n == impl.EvClear {
				at = 1
			}
			return does(withWay(plain, 3), n, at)
		}},
		{"At of EvStart", 0, 0, func(n int) bool { return does(plain, impl.EvStart, n) }},
		{"At of EvAnswer", 0, 0, func(n int) bool { return does(plain, impl.EvAnswer, n) }},
		{"At of EvClear", 0, 1, func(n int) bool { return does(talking, impl.EvClear, n) }},
		{"At of EvTimer", 0, 1, func(n int) bool { return does(talking, impl.EvTimer, n) }},
		{"Call ahead of EvStart", 0, 999, func(n int) bool {
			return does(impl.Duo{Halves: [2]impl.Half{{Call: n}, {Call: min(n, 0)}}}, impl.EvStart, 0)
		}},
		upTo("signals ahead of EvStart", 39, func(n int) bool { return does(withWay(plain, n), impl.EvStart, 0) }),
		upTo("signals ahead of EvAnswer", 39, func(n int) bool { return does(withWay(plain, n), impl.EvAnswer, 0) }),
		upTo("signals ahead of EvClear 0", 39, func(n int) bool { return does(withWay(talking, n), impl.EvClear, 0) }),
		upTo("signals ahead of EvClear 1", 39, func(n int) bool { return does(withWay(talking, n), impl.EvClear, 1) }),
		upTo("signals ahead of a timer of one that calls", 39, func(n int) bool { return does(withWay(calling, n), impl.EvTimer, 0) }),
		upTo("signals ahead of a timer of one that clears", 39, func(n int) bool { return does(withWay(calling, n), impl.EvTimer, 1) }),
		upTo("signals ahead of a timer of one that talks", 40, func(n int) bool { return does(withWay(talking, n), impl.EvTimer, 0) }),
		{"signals ahead of EvDouble", 1, 39, func(n int) bool { return does(withWay(plain, n), impl.EvDouble, 0) }},
		{"signals ahead of EvCarry", 1, 40, func(n int) bool { return does(withWay(plain, n), impl.EvCarry, 0) }},
		{"signals ahead of EvLose", 1, 40, func(n int) bool { return does(withWay(plain, n), impl.EvLose, 0) }},
		{"signals ahead of EvCarry that is answered", 1, 40, func(n int) bool {
			d := withWay(talking, n)
			if n > 0 {
				d.Way[0] = impl.Sig{To: 1, Kind: impl.SigSeize, Call: 5}
			}
			return does(d, impl.EvCarry, 0)
		}},
		upTo("events", 300, func(n int) bool {
			return impl.RunDuo(plain, slices.Repeat([]impl.Event{{}}, n)).Halves == plain.Halves
		}),
		{"rounds", 0, 20, func(n int) bool { return impl.Settle(plain, n).Halves[0].Call == 5 }},
	}
	for _, kind := range []int{impl.EvCarry, impl.EvLose, impl.EvDouble} {
		limits = append(limits, limit{fmt.Sprint("place of Kind ", kind), 0, 6, func(n int) bool { return does(withWay(plain, 7), kind, n) }})
	}
	checkLimits(t, limits)
}

// P21: chapter 6.
func TestLimitsOfTrunks(t *testing.T) {
	withWay := func(side, n int) impl.Trunk {
		trunk := impl.NewTrunk(4)
		trunk.Way[side] = slices.Repeat([]impl.Note{{Kind: impl.GiveOk}}, n)
		return trunk
	}
	trunkWith := func(change func(trunk *impl.Trunk)) bool {
		trunk := impl.NewTrunk(4)
		change(&trunk)
		return impl.TrunkOk(trunk)
	}
	carries := func(trunk impl.Trunk, side int) bool {
		_, ok := impl.Carry(trunk, side)
		return ok
	}
	limits := []limit{
		{"circuits of NewTrunk", 1, 24, func(n int) bool { return impl.TrunkOk(impl.NewTrunk(n)) }},
		{"circuits", 1, 24, func(n int) bool {
			return impl.TrunkOk(impl.Trunk{Circuits: [2][]int{make([]int, n), make([]int, n)}})
		}},
	}
	for side := range 2 {
		name, other := fmt.Sprint(" of side ", side), 1-side
		limits = append(limits,
			limit{"circuits that are as many" + name, 4, 4, func(n int) bool { return trunkWith(func(trunk *impl.Trunk) { trunk.Circuits[side] = make([]int, n) }) }},
			limit{"how a circuit is seen" + name, 0, 4, func(n int) bool { return trunkWith(func(trunk *impl.Trunk) { trunk.Circuits[side][2] = n }) }},
			limit{"Lost" + name, 0, 1000000, func(n int) bool { return trunkWith(func(trunk *impl.Trunk) { trunk.Lost[side] = n }) }},
			limit{"Kind of a Note" + name, 1, 5, func(n int) bool {
				return trunkWith(func(trunk *impl.Trunk) { trunk.Way[side] = []impl.Note{{Kind: n}} })
			}},
			limit{"Circuit of a Note" + name, 0, 3, func(n int) bool {
				return trunkWith(func(trunk *impl.Trunk) { trunk.Way[side] = []impl.Note{{Kind: 1, Circuit: n}} })
			}},
			upTo("Notes on the way"+name, 60, func(n int) bool { return impl.TrunkOk(withWay(side, n)) }),
			upTo("Notes ahead of a Seize"+name, 59, func(n int) bool {
				_, circuit := impl.Seize(withWay(other, n), side)
				return circuit >= 0
			}),
			upTo("Notes ahead of a Leave"+name, 59, func(n int) bool {
				trunk := withWay(other, n)
				trunk.Circuits[side][1] = impl.CircMine
				_, ok := impl.Leave(trunk, side, 1)
				return ok
			}),
			upTo("Notes ahead of what goes back"+name, 59, func(n int) bool {
				trunk := withWay(other, n)
				trunk.Way[side] = []impl.Note{{Kind: impl.TakeIt}}
				return carries(trunk, side)
			}),
			upTo("Notes where nothing goes back"+name, 60, func(n int) bool {
				trunk := withWay(other, n)
				trunk.Way[side] = []impl.Note{{Kind: impl.TakeOk}}
				return carries(trunk, side)
			}),
			upTo("Lost ahead of a TakeNo"+name, 999999, func(n int) bool {
				trunk := impl.NewTrunk(4)
				trunk.Lost[side], trunk.Circuits[side][0] = n, impl.CircAsked
				trunk.Way[side] = []impl.Note{{Kind: impl.TakeNo}}
				return carries(trunk, side)
			}),
			upTo("Lost ahead of a TakeIt"+name, 999999, func(n int) bool {
				trunk := impl.NewTrunk(4)
				trunk.Lost[side], trunk.Circuits[side][other] = n, impl.CircAsked
				trunk.Way[side] = []impl.Note{{Kind: impl.TakeIt, Circuit: other}}
				return carries(trunk, side)
			}),
			limit{"circuit of Leave" + name, 0, 3, func(n int) bool {
				trunk := impl.NewTrunk(4)
				trunk.Circuits[side] = slices.Repeat([]int{impl.CircMine}, 4)
				_, ok := impl.Leave(trunk, side, n)
				return ok
			}},
		)
	}
	both := impl.NewTrunk(4)
	both.Way = [2][]impl.Note{{{Kind: impl.TakeOk}}, {{Kind: impl.TakeOk}}}
	both.Circuits = [2][]int{{0, 2, 0, 0}, {0, 2, 0, 0}}
	limits = append(limits,
		limit{"side of Seize", 0, 1, func(n int) bool {
			_, circuit := impl.Seize(both, n)
			return circuit >= 0
		}},
		limit{"side of Leave", 0, 1, func(n int) bool {
			_, ok := impl.Leave(both, n, 1)
			return ok
		}},
		limit{"side of Carry", 0, 1, func(n int) bool { return carries(both, n) }})
	checkLimits(t, limits)
}

// forwards are n subscribers of whom each forwards to the next one but the last.
func forwards(n int) []impl.Sub {
	subs := make([]impl.Sub, n)
	for i := range n - 1 {
		subs[i].Features = []impl.Feature{{Kind: impl.FeatForward, Other: i + 1}}
	}
	return subs
}

// P21: chapter 7.
func TestLimitsOfSubs(t *testing.T) {
	having := func(features ...impl.Feature) bool {
		subs := make([]impl.Sub, 6)
		subs[2].Features = features
		return impl.SubsOk(subs)
	}
	limits := []limit{
		{"subs", 1, 16, func(n int) bool { return impl.SubsOk(make([]impl.Sub, n)) }},
		upTo("subs of Order7", 16, func(n int) bool { return len(impl.Order7(make([]impl.Sub, n), nil)) == n }),
		{"subs of Route7", 2, 16, func(n int) bool { return impl.Route7(make([]impl.Sub, n), 0, 1).Code == impl.OutAnswer }},
		{"Kind", 1, 7, func(n int) bool { return having(impl.Feature{Kind: n}) }},
		{"from", 0, 5, func(n int) bool { return impl.Route7(make([]impl.Sub, 6), n, 3).Code == impl.OutAnswer }},
		{"to", 0, 5, func(n int) bool { return impl.Route7(make([]impl.Sub, 6), 3, n).Code == impl.OutAnswer }},
		upTo("those that are gone over", 5, func(n int) bool {
			out := impl.Route7(append(forwards(n+1), impl.Sub{}), n+1, 0)
			return out.Code == impl.OutAnswer && len(out.Hops) == n && out.At == n
		}),
		upTo("screens of one subscriber", 6, func(n int) bool {
			var features []impl.Feature
			for i := range n {
				features = append(features, impl.Feature{Kind: impl.FeatScreen, Other: i % 6})
			}
			return having(features...)
		}),
		upTo("subs of Clashes", 16, func(n int) bool {
			subs := make([]impl.Sub, n)
			subs[0] = impl.Sub{Busy: true, Features: []impl.Feature{{Kind: impl.FeatWait}, {Kind: impl.FeatBusyTo, Other: 1}}}
			return len(impl.Clashes(subs)) == 1
		}),
	}
	for kind := impl.FeatForward; kind <= impl.FeatPrivate; kind++ {
		most := 0
		switch kind {
		case impl.FeatForward, impl.FeatBusyTo, impl.FeatLateTo, impl.FeatScreen:
			most = 5
		}
		limits = append(limits, limit{fmt.Sprint("Other of Kind ", kind), 0, most, func(n int) bool { return having(impl.Feature{Kind: kind, Other: n}) }})
		limits = append(limits, upTo(fmt.Sprint("features alike of Kind ", kind), 1, func(n int) bool { return having(slices.Repeat([]impl.Feature{{Kind: kind}}, n)...) }))
		if kind != impl.FeatScreen {
			limits = append(limits, upTo(fmt.Sprint("features of Kind ", kind), 1, func(n int) bool {
				var features []impl.Feature
				for i := range n {
					features = append(features, impl.Feature{Kind: kind, Other: min(i, most)})
				}
				return having(features...)
			}))
		}
	}
	checkLimits(t, limits)
}

// powerOfTwo is 1, so often twice; below that it is 0.
func powerOfTwo(n int) int {
	if n < 0 {
		return 0
	}
	return 1 << n
}

// P21: chapter 8, what is a desk.
func TestLimitsOfDesks(t *testing.T) {
	agents := func(n int) []impl.Agent {
		return slices.Repeat([]impl.Agent{{Skills: 1, Busy: -1}}, n)
	}
	deskWith := func(change func(d *impl.Desk)) bool {
		d := impl.Desk{Now: 50, Agents: []impl.Agent{{Skills: 1, Busy: 7}, {Skills: 2, Busy: -1}}, Queue: []impl.Waiting{{Call: 8, Skill: 1}}}
		change(&d)
		return impl.DeskOk(d)
	}
	checkLimits(t, []limit{
		{"Agents", 1, 12, func(n int) bool { return impl.DeskOk(impl.Desk{Agents: agents(n)}) }},
		upTo("Queue", 40, func(n int) bool { return impl.DeskOk(busyDesk(12, n)) }),
		{"Skills", 0, 255, func(n int) bool { return deskWith(func(d *impl.Desk) { d.Agents[0].Skills = n }) }},
		{"Busy", -1, 1000000000, func(n int) bool {
			return impl.DeskOk(impl.Desk{Agents: []impl.Agent{{Skills: 1, Busy: n}}})
		}},
		{"Since of an agent", 0, 50, func(n int) bool { return deskWith(func(d *impl.Desk) { d.Agents[0].Since = n }) }},
		{"Since of a caller", 0, 50, func(n int) bool { return deskWith(func(d *impl.Desk) { d.Queue[0].Since = n }) }},
		{"Call of a caller", 0, 1000000000, func(n int) bool { return deskWith(func(d *impl.Desk) { d.Queue[0].Call = n }) }},
		{"Priority", 0, 9, func(n int) bool { return deskWith(func(d *impl.Desk) { d.Queue[0].Priority = n }) }},
		{"Skill, how often it is twice 1", 0, 7, func(n int) bool { return deskWith(func(d *impl.Desk) { d.Queue[0].Skill = powerOfTwo(n) }) }},
		{"Now", 0, 1000000000, func(n int) bool { return impl.DeskOk(impl.Desk{Now: n, Agents: agents(1)}) }},
		{"Given", 0, 1000000, func(n int) bool { return deskWith(func(d *impl.Desk) { d.Given = n }) }},
	})
}

// P21: chapter 8, what is done at a desk.
func TestLimitsOfDeskOps(t *testing.T) {
	d := impl.Desk{Now: 50, Agents: []impl.Agent{{Skills: 1, Busy: 7}, {Skills: 1, Busy: 9}}, Queue: []impl.Waiting{{Call: 8, Skill: 2}}}
	does := func(d impl.Desk, op impl.DeskOp) int {
		_, _, code := impl.DoDesk(d, op)
		return code
	}
	op := func(kind, tick, who, skill, priority int) impl.DeskOp {
		return impl.DeskOp{Kind: kind, Tick: tick, Who: who, Skill: skill, Priority: priority}
	}
	limits := []limit{
		{"Kind", 1, 4, func(n int) bool {
			skill := 0
			if n == impl.DeskCall {
				skill = 1
			}
			return does(d, op(n, 50, 0, skill, 0)) != impl.DeskBad
		}},
		{"Who of DeskCall", 0, 1000000000, func(n int) bool { return does(d, op(impl.DeskCall, 50, n, 1, 0)) == impl.DeskDone }},
		{"Priority of DeskCall", 0, 9, func(n int) bool { return does(d, op(impl.DeskCall, 50, 1, 1, n)) == impl.DeskDone }},
		{"Skill of DeskCall, how often it is twice 1", 0, 7, func(n int) bool { return does(d, op(impl.DeskCall, 50, 1, powerOfTwo(n), 0)) == impl.DeskDone }},
		{"Who of DeskEnd", 0, 1, func(n int) bool { return does(d, op(impl.DeskEnd, 50, n, 0, 0)) == impl.DeskDone }},
		{"Who of DeskSkills", 0, 1, func(n int) bool { return does(d, op(impl.DeskSkills, 50, n, 3, 0)) == impl.DeskDone }},
		{"Skills of DeskSkills", 0, 255, func(n int) bool { return does(d, op(impl.DeskSkills, 50, 0, n, 0)) == impl.DeskDone }},
		{"Skill of DeskEnd", 0, 0, func(n int) bool { return does(d, op(impl.DeskEnd, 50, 0, n, 0)) == impl.DeskDone }},
		{"Skill of DeskGone", 0, 0, func(n int) bool { return does(d, op(impl.DeskGone, 50, 8, n, 0)) == impl.DeskDone }},
		{"Priority of DeskEnd", 0, 0, func(n int) bool { return does(d, op(impl.DeskEnd, 50, 0, 0, n)) == impl.DeskDone }},
		{"Priority of DeskGone", 0, 0, func(n int) bool { return does(d, op(impl.DeskGone, 50, 8, 0, n)) == impl.DeskDone }},
		{"Priority of DeskSkills", 0, 0, func(n int) bool { return does(d, op(impl.DeskSkills, 50, 0, 0, n)) == impl.DeskDone }},
		{"a call of Served", 0, 1000000000, func(n int) bool {
			where, _ := impl.Served(impl.Desk{Agents: []impl.Agent{{Busy: n}}}, n)
			return where == 0
		}},
		upTo("Queue ahead of a caller who waits", 39, func(n int) bool {
			return does(busyDesk(12, n), op(impl.DeskCall, 100, 500, 1, 0)) == impl.DeskDone
		}),
		upTo("Given ahead of one that is given", 999999, func(n int) bool {
			return does(impl.Desk{Given: n, Agents: []impl.Agent{{Skills: 1, Busy: -1}}}, op(impl.DeskCall, 0, 1, 1, 0)) == impl.DeskDone
		}),
		upTo("ops", 200, func(n int) bool {
			behind, _, codes := impl.RunDesk(d, make([]impl.DeskOp, n))
			return behind.Now == 50 && len(codes) == n
		}),
	}
	for kind, who := range map[int]int{impl.DeskCall: 1, impl.DeskGone: 8, impl.DeskEnd: 0, impl.DeskSkills: 0} {
		skill := map[int]int{impl.DeskCall: 1}[kind]
		limits = append(limits, limit{fmt.Sprint("Tick of Kind ", kind), 50, 1000000000, func(n int) bool { return does(d, op(kind, n, who, skill, 0)) == impl.DeskDone }})
	}
	checkLimits(t, limits)
}

// P21: chapter 9, what is a list of tariffs.
func TestLimitsOfTariffs(t *testing.T) {
	tariffWith := func(change func(tariff *impl.Tariff)) bool {
		list := []impl.Tariff{{Zone: 1, Step: 10, Price: 5, First: 3}}
		change(&list[0])
		return impl.TariffsOk(list)
	}
	checkLimits(t, []limit{
		upTo("tariffs", 40, func(n int) bool { return impl.TariffsOk(manyTariffs(n)) }),
		{"Zone", 0, 99, func(n int) bool { return tariffWith(func(tariff *impl.Tariff) { tariff.Zone = n }) }},
		{"From", 0, 86399, func(n int) bool { return tariffWith(func(tariff *impl.Tariff) { tariff.From = n }) }},
		{"Step", 1, 10000, func(n int) bool { return tariffWith(func(tariff *impl.Tariff) { tariff.Step = n }) }},
		{"Price", 0, 100000, func(n int) bool { return tariffWith(func(tariff *impl.Tariff) { tariff.Price = n }) }},
		{"First", 0, 100000, func(n int) bool { return tariffWith(func(tariff *impl.Tariff) { tariff.First = n }) }},
		{"tick of TariffAt", 0, 1000000000, func(n int) bool {
			_, ok := impl.TariffAt([]impl.Tariff{{Zone: 1, Step: 1}}, 1, n)
			return ok
		}},
		{"tariffs of the zone of TariffAt", 7, 7, func(n int) bool {
			_, ok := impl.TariffAt([]impl.Tariff{{Zone: 7, Step: 1}}, n, 0)
			return ok
		}},
		{"tick from which a tariff holds", 500, noMost, func(n int) bool {
			place, _ := impl.TariffAt([]impl.Tariff{{Zone: 1, From: 500, Step: 1}, {Zone: 1, From: 0, Step: 1}}, 1, n)
			return place == 0
		}},
		{"tick up to which a tariff holds", 0, 499, func(n int) bool {
			place, ok := impl.TariffAt([]impl.Tariff{{Zone: 1, From: 500, Step: 1}, {Zone: 1, From: 0, Step: 1}}, 1, n)
			return ok && place == 1
		}},
	})
}

// P21: chapter 9, what is reckoned and paid.
func TestLimitsOfCharges(t *testing.T) {
	list := []impl.Tariff{{Zone: 1, Step: 10, Price: 5, First: 3}}
	rates := func(begin, end int) bool {
		_, ok := impl.Rate(list, 1, begin, end)
		return ok
	}
	cuts := func(cuts ...int) bool {
		_, ok := impl.RateParts(list, 1, 1000, 2000, cuts)
		return ok
	}
	reserves := func(p impl.Purse, list []impl.Tariff, most int) int {
		_, ticks, ok := impl.Reserve(p, list, 1, 0, most)
		if !ok {
			return -1
		}
		return ticks
	}
	settles := func(p impl.Purse, kept, cost int) bool {
		_, ok := impl.SettleUp(p, kept, cost)
		return ok
	}
	rich := impl.Purse{Left: 1000000000}
	checkLimits(t, []limit{
		{"begin of Rate", 0, 1000000000, func(n int) bool { return rates(n, n) }},
		{"end of Rate", 700, 700 + 86400, func(n int) bool { return rates(700, n) }},
		{"the last end of Rate", 999999999, 1000000000, func(n int) bool { return rates(999999999, n) }},
		{"end up to which a step is one", 1, 10, func(n int) bool {
			charge, ok := impl.Rate(list, 1, 0, n)
			return ok && charge.Steps == 1
		}},
		upTo("cuts", 100, func(n int) bool {
			list := make([]int, n)
			for i := range list {
				list[i] = 1000 + i
			}
			return cuts(list...)
		}),
		{"a cut", 1000, 2000, func(n int) bool { return cuts(n) }},
		{"a cut behind another one", 1501, 2000, func(n int) bool { return cuts(1500, n) }},
		{"a cut ahead of another one", 1000, 1499, func(n int) bool { return cuts(n, 1500) }},
		{"Left", 0, 1000000000, func(n int) bool { return settles(impl.Purse{Left: n}, 0, 0) }},
		{"Kept, by Left", 0, 77, func(n int) bool { return settles(impl.Purse{Left: 77, Kept: n}, 0, 0) }},
		{"Left and Kept", 0, 1000000000, func(n int) bool { return settles(impl.Purse{Left: n, Kept: n}, 0, 0) }},
		{"kept", 0, 50, func(n int) bool { return settles(impl.Purse{Left: 77, Kept: 50}, n, min(n, 0)) }},
		{"cost", 0, 40, func(n int) bool { return settles(impl.Purse{Left: 77, Kept: 50}, 40, n) }},
		{"most", 1, 86400, func(n int) bool { return reserves(rich, list, n) == n }},
		{"Left for one step", 8, 12, func(n int) bool { return reserves(impl.Purse{Left: n}, list, 100) == 10 }},
		{"Left less Kept for one step", 18, 22, func(n int) bool { return reserves(impl.Purse{Left: n, Kept: 10}, list, 100) == 10 }},
		{"Left of Reserve", noLeast, 1000000000, func(n int) bool { return reserves(impl.Purse{Left: n}, list, 5) == 5 }},
		upTo("tariffs of Rate", 40, func(n int) bool {
			_, ok := impl.Rate(append([]impl.Tariff{{Zone: 99, Step: 1}}, manyTariffs(n-1)...), 99, 0, 1)
			return ok
		}),
	})
}

// The many that other tests make are none of the zone that is asked for here.
func TestManyTariffsAreOfOtherZones(t *testing.T) {
	if strings.Contains(fmt.Sprint(manyTariffs(40)), "{99 ") {
		t.Error(manyTariffs(40))
	}
}
