package tests

import (
	"fmt"
	"math"
	"slices"
	"strconv"
	"strings"
	"testing"

	"loop.example/g00052/impl"
)

// deskOffer is a caller that an agent could take, with all that counts in the
// choice, the least being the best.
type deskOffer struct {
	caller int
	agent  int
	counts [6]int
}

// deskOffers are all that stand open.
func deskOffers(d impl.Desk) []deskOffer {
	var list []deskOffer
	for i, waits := range d.Queue {
		for j, agent := range d.Agents {
			if agent.Busy == -1 && hasSkill(agent.Skills, waits.Skill) {
				many := strings.Count(strconv.FormatInt(int64(agent.Skills), 2), "1")
				list = append(list, deskOffer{i, j, [6]int{-waits.Priority, waits.Since, i, many, agent.Since, j}})
			}
		}
	}
	return list
}

// deskByOffers tells an op a second time: the best of all offers is taken until
// there is none. It is for desks that are right, and for Kinds that are.
func deskByOffers(d impl.Desk, op impl.DeskOp) (impl.Desk, []int, int) {
	as := copyOfDesk(d)
	d = copyOfDesk(d)
	if op.Tick < d.Now || op.Tick > impl.MaxTick {
		return as, nil, impl.DeskBad
	}
	d.Now = op.Tick
	if code := beginByHand(&d, op); code != impl.DeskDone {
		return as, nil, code
	}
	var given []int
	for offers := deskOffers(d); len(offers) > 0; offers = deskOffers(d) {
		best := slices.MinFunc(offers, func(a deskOffer, b deskOffer) int { return slices.Compare(a.counts[:], b.counts[:]) })
		call := d.Queue[best.caller].Call
		d.Queue = slices.Delete(d.Queue, best.caller, best.caller+1)
		d.Agents[best.agent].Busy, d.Agents[best.agent].Since = call, d.Now
		d.Given++
		given = append(given, call)
	}
	if len(d.Queue) > 40 || d.Given > 1000000 {
		return as, nil, impl.DeskFull
	}
	return d, given, impl.DeskDone
}

func beginByHand(d *impl.Desk, op impl.DeskOp) int {
	isOp := func(waits impl.Waiting) bool { return waits.Call == op.Who }
	waits := slices.ContainsFunc(d.Queue, isOp)
	talks := slices.ContainsFunc(d.Agents, func(agent impl.Agent) bool { return agent.Busy == op.Who })
	there := op.Who >= 0 && op.Who < len(d.Agents)
	switch {
	case op.Kind == impl.DeskCall && (waits || talks):
		return impl.DeskBad
	case op.Kind == impl.DeskCall:
		d.Queue = append(d.Queue, impl.Waiting{Call: op.Who, Skill: op.Skill, Priority: op.Priority, Since: op.Tick})
	case op.Kind == impl.DeskGone && waits:
		d.Queue = slices.DeleteFunc(d.Queue, isOp)
	case op.Kind == impl.DeskEnd && there && d.Agents[op.Who].Busy >= 0:
		d.Agents[op.Who].Busy, d.Agents[op.Who].Since = -1, op.Tick
	case op.Kind == impl.DeskSkills && there:
		d.Agents[op.Who].Skills = op.Skill
	default:
		return impl.DeskNone
	}
	return impl.DeskDone
}

func checkByOffers(t *testing.T, d impl.Desk, op impl.DeskOp) (impl.Desk, []int, int) {
	t.Helper()
	got, given, code := impl.DoDesk(d, op)
	want, wantGiven, wantCode := deskByOffers(d, op)
	if !sameDesk(got, want) || !slices.Equal(given, wantGiven) || code != wantCode {
		t.Fatalf("%s, %v: %s, given %v, %s; not %s, given %v, %s", textOfDesk(d), op, textOfDesk(got), given, deskCodeName(code), textOfDesk(want), wantGiven, deskCodeName(wantCode))
	}
	return got, given, code
}

// everySmallDesk visits all desks of two agents and up to two callers over two
// skills, two Priorities and two ticks, whether or not somebody could be given.
func everySmallDesk(visit func(d impl.Desk)) {
	var agents, callers []string
	for skills := range 4 {
		agents = append(agents, fmt.Sprintf("%d@0 ", skills), fmt.Sprintf("%d@1 ", skills), fmt.Sprintf("%d=%%d@0 ", skills))
	}
	for _, skill := range []int{1, 2} {
		for _, rest := range []string{"!0@0", "!0@1", "!1@0", "!1@1"} {
			callers = append(callers, fmt.Sprintf("/%d%s", skill, rest))
		}
	}
	queues := []string{""}
	for _, one := range callers {
		queues = append(queues, " 20"+one)
		for _, two := range callers {
			queues = append(queues, " 21"+one+" 20"+two)
		}
	}
	for _, one := range agents {
		for _, two := range agents {
			pair := strings.Replace(one, "%d", "10", 1) + strings.Replace(two, "%d", "11", 1)
			for _, queue := range queues {
				visit(deskOf("1 0: " + pair + "|" + queue))
			}
		}
	}
}

// P8: each op on all small desks, against the second telling. A desk that is
// right has nobody to give, and an op lets one agent at most take more than
// ahead of it, so that no op gives two.
func TestDeskOfAllSmallDesks(t *testing.T) {
	ops := deskOpsOf("gone 20@2, gone 21@2, gone 10@2, end 0@2, end 1@1, end 2@2, end 0@0")
	for _, skill := range []int{1, 2} {
		ops = append(ops, deskOpsOf(fmt.Sprintf("call 30/%d@2, call 30/%d!1@1, call 20/%d@2, call 10/%d@2", skill, skill, skill, skill))...)
	}
	for skills := range 4 {
		ops = append(ops, deskOpsOf(fmt.Sprintf("skills 0/%d@2, skills 1/%d@1", skills, skills))...)
	}
	right, gave := 0, 0
	everySmallDesk(func(d impl.Desk) {
		ok := len(deskOffers(d)) == 0
		if impl.DeskOk(d) != ok {
			t.Fatalf("%s: %v", textOfDesk(d), !ok)
		}
		if !ok {
			for _, op := range ops[:3] {
				checkDeskRefused(t, "somebody could be given", d, op, impl.DeskBad)
			}
			return
		}
		right++
		for _, op := range ops {
			after, given, _ := checkByOffers(t, d, op)
			if !impl.DeskOk(after) || len(given) > 1 {
				t.Fatalf("%s, %v: %s, given %v", textOfDesk(d), op, textOfDesk(after), given)
			}
			gave += len(given)
		}
	})
	if right < 3000 || gave < 3000 {
		t.Errorf("%d desks that are right, %d given: too dull", right, gave)
	}
}

// drawDesk draws one that is right, whether or not it could come from a
// beginning: callers do not stand in the order of their Since.
func drawDesk(r *drawn, agents int, waiting int) impl.Desk {
	d := impl.Desk{Now: 50, Given: r.below(5)}
	for i := range agents {
		agent := impl.Agent{Skills: r.below(256), Busy: -1, Since: 40 + r.below(4)}
		if r.below(3) > 0 {
			agent.Busy = 500 + i
		}
		d.Agents = append(d.Agents, agent)
	}
	for i := range waiting {
		waits := impl.Waiting{Call: 600 + i, Skill: eachSkill[r.below(8)], Priority: r.below(3), Since: 45 + r.below(4)}
		d.Queue = append(d.Queue, waits)
		if len(deskOffers(d)) > 0 {
			d.Queue = d.Queue[:len(d.Queue)-1]
		}
	}
	return d
}

// drawDeskOp draws one that is done more often than not.
func drawDeskOp(r *drawn, d impl.Desk, next int) impl.DeskOp {
	op := impl.DeskOp{Kind: 1 + r.below(4), Tick: d.Now + r.below(3)}
	switch op.Kind {
	case impl.DeskCall:
		op.Who, op.Skill, op.Priority = next, eachSkill[r.below(8)], r.below(3)
	case impl.DeskGone:
		op.Who = 3000
		if len(d.Queue) > 0 && r.below(10) > 0 {
			op.Who = d.Queue[r.below(len(d.Queue))].Call
		}
	case impl.DeskEnd:
		op.Who = r.below(len(d.Agents) + 1)
	case impl.DeskSkills:
		op.Who, op.Skill = r.below(len(d.Agents)+1), r.below(256)
	}
	if r.below(40) == 0 {
		op.Tick = d.Now - 1
	}
	return op
}

// P8: drawn desks of all sizes, each with some ops, against the second telling.
func TestDeskOfDrawnDesks(t *testing.T) {
	r := drawn(8)
	seen := map[string]int{}
	for round := range 6000 {
		d := drawDesk(&r, 1+round%12, round%41)
		if !impl.DeskOk(d) {
			t.Fatalf("%s is not ok", textOfDesk(d))
		}
		for next := range 12 {
			op := drawDeskOp(&r, d, 700+next)
			_, given, code := checkByOffers(t, d, op)
			seen[fmt.Sprintf("%s %s %d", deskOpNames[op.Kind], deskCodeName(code), len(given))]++
		}
	}
	for _, what := range []string{"call done 1", "call done 0", "call bad 0", "gone done 0", "gone none 0", "end done 1", "end done 0", "end none 0", "skills done 1", "skills done 0", "skills none 0"} {
		if seen[what] < 50 {
			t.Errorf("%s: only %d were drawn", what, seen[what])
		}
	}
}

// deskTurns keeps, beside a desk at work, who came and is still to be given, in
// the order of coming, and counts those given.
type deskTurns struct {
	came  []impl.DeskOp
	given int
}

func (turns *deskTurns) leave(call int) (impl.DeskOp, int) {
	at := slices.IndexFunc(turns.came, func(op impl.DeskOp) bool { return op.Who == call })
	if at < 0 {
		return impl.DeskOp{}, -1
	}
	op := turns.came[at]
	turns.came = slices.Delete(turns.came, at, at+1)
	return op, at
}

// check asks for turns behind an op that is done: of those for one skill nobody
// who came earlier with no less Priority, nor anybody with a greater one, is
// left behind by who is given.
func (turns *deskTurns) check(t *testing.T, op impl.DeskOp, given []int) {
	t.Helper()
	switch op.Kind {
	case impl.DeskCall:
		turns.came = append(turns.came, op)
	case impl.DeskGone:
		turns.leave(op.Who)
	}
	for _, call := range given {
		first, at := turns.leave(call)
		if at < 0 {
			t.Fatalf("%v: %d is given, and did not wait", op, call)
		}
		for i, other := range turns.came {
			earlier := i < at && other.Priority >= first.Priority
			if other.Skill == first.Skill && (earlier || other.Priority > first.Priority) {
				t.Fatalf("%v: %v is given ahead of %v", op, first, other)
			}
		}
		turns.given++
	}
}

// checkNobodyWaits looks at each caller and each agent.
func checkNobodyWaits(t *testing.T, d impl.Desk) {
	t.Helper()
	if offers := deskOffers(d); len(offers) > 0 {
		t.Fatalf("%s: %v could be given", textOfDesk(d), offers)
	}
	if !impl.DeskOk(d) {
		t.Fatalf("%s is not ok", textOfDesk(d))
	}
}

// checkServed asks of each call that came where it is.
func checkServed(t *testing.T, d impl.Desk, turns *deskTurns) {
	t.Helper()
	for i, agent := range d.Agents {
		if kind, place := impl.Served(d, agent.Busy); agent.Busy >= 0 && (kind != 0 || place != i) {
			t.Fatalf("%s: %d is served %d %d", textOfDesk(d), agent.Busy, kind, place)
		}
	}
	if len(turns.came) != len(d.Queue) {
		t.Fatalf("%s: %v wait", textOfDesk(d), turns.came)
	}
	for i, op := range turns.came {
		if kind, place := impl.Served(d, op.Who); kind != 1 || place != i {
			t.Fatalf("%s: %v is served %d %d", textOfDesk(d), op, kind, place)
		}
	}
}

// deskAtWork is how busy a drawn run is.
type deskAtWork struct {
	agents int
	skills int
	calls  int
}

// drawWork draws an op of a run; more calls than others where it is to be busy.
func drawWork(r *drawn, d impl.Desk, work deskAtWork, next int) impl.DeskOp {
	if r.below(10) < work.calls {
		return impl.DeskOp{Kind: impl.DeskCall, Tick: d.Now + r.below(2), Who: next, Skill: 1 << r.below(work.skills), Priority: r.below(3)}
	}
	op := drawDeskOp(r, d, next)
	if op.Kind == impl.DeskCall {
		op.Skill = 1 << r.below(work.skills)
	}
	if op.Kind == impl.DeskSkills {
		op.Skill %= 1 << work.skills
	}
	return op
}

// P8: over long drawn runs nobody waits while an agent could take them, turns
// are kept, and Given counts those that were given.
func TestDeskTurnsDrawn(t *testing.T) {
	r := drawn(88)
	most, gave, full := 0, 0, 0
	for round := range 60 {
		work := deskAtWork{agents: 1 + round%12, skills: 1 + round%8, calls: round % 7}
		d := impl.Desk{}
		for range work.agents {
			d.Agents = append(d.Agents, impl.Agent{Skills: r.below(1 << work.skills), Busy: -1})
		}
		var turns deskTurns
		for next := range 400 {
			op := drawWork(&r, d, work, next)
			after, given, code := checkByOffers(t, d, op)
			if code == impl.DeskDone {
				turns.check(t, op, given)
			}
			if code == impl.DeskFull {
				full++
			}
			checkNobodyWaits(t, after)
			checkServed(t, after, &turns)
			if after.Given != turns.given {
				t.Fatalf("%s: %d were given", textOfDesk(after), turns.given)
			}
			d = after
			most = max(most, len(d.Queue))
		}
		gave += turns.given
	}
	if most != impl.MaxWaiting || gave < 2000 || full < 50 {
		t.Errorf("at most %d wait, %d given, %d times full: too dull", most, gave, full)
	}
}

// P8: all ops one after the other, with some refused among them.
func TestRunDesk(t *testing.T) {
	cases := []struct {
		desk  string
		ops   string
		after string
		given string
		codes string
		why   string
	}{
		{"0 0: 1 |", "call 5/1", "0 1: 1=5 |", "5", "0", "one op"},
		{"0 0: 3 1 |", "call 5/1@1, call 6/1@2, call 7/1@3, call 8/2!1@4, end 0@5, end 1@6, end 0@7", "7 4: 3@7 1=7@6 |", "5 6 8 7", "0 0 0 0 0 0 0", "all are done"},
		{"0 0: 3 |", "call 5/1@1, call 5/1@2, end 1@2, gone 5@2, call 6/2@3, ? 0@3, end 0@2, end 0@4, end 0@5, end 0@6", "5 2: 3@5 |", "5 6", "0 1 3 3 0 1 1 0 0 3", "some are refused"},
		{"9 999999: 1=4 | 5/1 6/1", "end 0@9, end 0@10, gone 6@10, end 0@11, call 7/1@12, skills 0/0@12, call 7/1@12", "12 1000000: 0@11 | 7/1@12", "5", "0 2 0 0 2 0 0", "no more may be Given"},
		{"9 0: 0 |", "end 0@20, gone 4@30, call 4/1@10, skills 0/1@11", "11 1: 1=4@11 |", "4", "3 3 0 0", "what is refused leaves Now as it was"},
		{"9 0: 0 |", "end 0@9, gone 4@9", "9 0: 0 |", "", "3 3", "none is done"},
		{"9 0: 4=3 | 5/4!1@3 6/4!2@8", "skills 0/0@9, end 0@9, skills 0/4@10", "10 1: 4=6@10 | 5/4!1@3", "6", "0 0 0", "given by skills"},
	}
	for _, c := range cases {
		got, given, codes := impl.RunDesk(deskOf(c.desk), deskOpsOf(c.ops))
		told := [2]string{strings.Trim(fmt.Sprint(given), "[]"), strings.Trim(fmt.Sprint(codes), "[]")}
		if !sameDesk(got, deskOf(c.after)) || told != [2]string{c.given, c.codes} {
			t.Errorf("%s: %s, %s: %s, given %v, codes %v", c.why, c.desk, c.ops, textOfDesk(got), given, codes)
		}
	}
}

// P8: a run is its ops one by one.
func TestRunDeskAgainstSingleOps(t *testing.T) {
	r := drawn(808)
	for round := range 600 {
		first := drawDesk(&r, 1+round%12, round%41)
		d := copyOfDesk(first)
		var ops []impl.DeskOp
		var given, codes []int
		for next := range round % 201 {
			op := drawDeskOp(&r, d, 700+next)
			after, calls, code := impl.DoDesk(d, op)
			d, ops, given, codes = after, append(ops, op), append(given, calls...), append(codes, code)
		}
		got, gotGiven, gotCodes := impl.RunDesk(first, ops)
		if !sameDesk(got, d) || !slices.Equal(gotGiven, given) || !slices.Equal(gotCodes, codes) {
			t.Fatalf("%s, %v: %s, given %v, codes %v", textOfDesk(first), ops, textOfDesk(got), gotGiven, gotCodes)
		}
	}
}

// checkRunNothing asks for the zero value and nothing twice.
func checkRunNothing(t *testing.T, why string, d impl.Desk, ops []impl.DeskOp) {
	t.Helper()
	if got, given, codes := impl.RunDesk(d, ops); !sameDesk(got, impl.Desk{}) || len(given)+len(codes) > 0 {
		t.Errorf("%s: %s, given %v, %d codes", why, textOfDesk(got), given, len(codes))
	}
}

// P8, P21: no ops, 200, and one more.
func TestRunDeskLimit(t *testing.T) {
	for _, ops := range [][]impl.DeskOp{nil, {}} {
		if got, given, codes := impl.RunDesk(plainDesk(), ops); !sameDesk(got, plainDesk()) || len(given)+len(codes) > 0 {
			t.Errorf("no ops: %s, %v, %v", textOfDesk(got), given, codes)
		}
	}
	var ops []impl.DeskOp
	for i := range 100 {
		ops = append(ops, impl.DeskOp{Kind: impl.DeskCall, Tick: i, Who: i, Skill: 4}, impl.DeskOp{Kind: impl.DeskEnd, Tick: i})
	}
	got, given, codes := impl.RunDesk(deskOf("0 0: 4 |"), ops)
	if !sameDesk(got, deskOf("99 100: 4@99 |")) || len(given) != 100 || !slices.Equal(codes, make([]int, 200)) {
		t.Errorf("200 ops: %s, given %v, codes %v", textOfDesk(got), given, codes)
	}
	for _, more := range deskOpsOf("call 700/4@99, end 0@99, ? 0") {
		checkRunNothing(t, "201 ops", deskOf("0 0: 4 |"), append(slices.Clone(ops), more))
	}
	checkRunNothing(t, "many ops", deskOf("0 0: 4 |"), make([]impl.DeskOp, 5000))
	refused := slices.Repeat([]impl.DeskOp{{Kind: math.MinInt}}, 200)
	if got, given, codes := impl.RunDesk(plainDesk(), refused); !sameDesk(got, plainDesk()) || len(given) > 0 || !slices.Equal(codes, slices.Repeat([]int{impl.DeskBad}, 200)) {
		t.Errorf("200 ops that are none: %s, given %v, codes %v", textOfDesk(got), given, codes)
	}
}

// P8: a desk that is none stays as it was, and each op is DeskBad.
func TestRunDeskOfWrongDesks(t *testing.T) {
	ops := deskOpsOf("call 77/1@100, gone 7@100, end 0@1000, skills 0/255@1000")
	for why, d := range wrongDesks() {
		got, given, codes := impl.RunDesk(d, ops)
		if !sameDesk(got, d) || len(given) > 0 || !slices.Equal(codes, []int{1, 1, 1, 1}) {
			t.Errorf("%s: %s, given %v, codes %v", why, textOfDesk(got), given, codes)
		}
		if got, given, codes = impl.RunDesk(d, nil); !sameDesk(got, d) || len(given)+len(codes) > 0 {
			t.Errorf("%s, no ops: %s, given %v, codes %v", why, textOfDesk(got), given, codes)
		}
		checkRunNothing(t, why, d, make([]impl.DeskOp, 201))
	}
}
