package tests

import (
	"fmt"
	"math"
	"slices"
	"strconv"
	"strings"
	"testing"

	"loop.example/g00052/impl"
)

// deskCase is an op that is done: the calls that it gives, and the desk behind it.
type deskCase struct {
	desk  string
	op    string
	given string
	after string
	why   string
}

func checkDeskCases(t *testing.T, cases []deskCase) {
	t.Helper()
	for _, c := range cases {
		got, given, code := impl.DoDesk(deskOf(c.desk), deskOpOf(c.op))
		if !sameDesk(got, deskOf(c.after)) || strings.Trim(fmt.Sprint(given), "[]") != c.given || code != impl.DeskDone {
			t.Errorf("%s: %s, %s: %s, given %v, %s; not %s, given %s", c.why, c.desk, c.op, textOfDesk(got), given, deskCodeName(code), c.after, c.given)
		}
	}
}

// checkDeskRefused asks for the desk as it was, no calls, and that code.
func checkDeskRefused(t *testing.T, why string, d impl.Desk, op impl.DeskOp, want int) {
	t.Helper()
	got, given, code := impl.DoDesk(d, op)
	if !sameDesk(got, d) || len(given) > 0 || code != want {
		t.Errorf("%s: %s, %v: %s, given %v, %s, not %s", why, textOfDesk(d), op, textOfDesk(got), given, deskCodeName(code), deskCodeName(want))
	}
}

// checkDeskDone asks for DeskDone, with those given.
func checkDeskDone(t *testing.T, why string, d impl.Desk, op impl.DeskOp, want ...int) impl.Desk {
	t.Helper()
	got, given, code := impl.DoDesk(d, op)
	if code != impl.DeskDone || !slices.Equal(given, want) || !impl.DeskOk(got) || got.Now != op.Tick {
		t.Errorf("%s: %s, %v: %s, given %v, %s", why, textOfDesk(d), op, textOfDesk(got), given, deskCodeName(code))
	}
	return got
}

func TestDeskConstants(t *testing.T) {
	got := []int{impl.MaxAgents, impl.MaxWaiting, impl.DeskDone, impl.DeskBad, impl.DeskFull, impl.DeskNone, impl.DeskCall, impl.DeskGone, impl.DeskEnd, impl.DeskSkills}
	if !slices.Equal(got, []int{12, 40, 0, 1, 2, 3, 1, 2, 3, 4}) {
		t.Error(got)
	}
}

// P8: each kind, with and without somebody to be given.
func TestDeskKinds(t *testing.T) {
	checkDeskCases(t, []deskCase{
		{"0 0: 1 |", "call 5/1", "5", "0 1: 1=5 |", "given at once"},
		{"3 4: 1@2 |", "call 5/1!7@8", "5", "8 5: 1=5@8 |", "given at its tick"},
		{"3 4: 2@2 |", "call 5/1!7@8", "", "8 4: 2@2 | 5/1!7@8", "no agent has the skill"},
		{"3 4: 1=9@2 |", "call 5/1!7@8", "", "8 4: 1=9@2 | 5/1!7@8", "the agent is Busy"},
		{"3 4: 1=9@2 | 7/1@3", "call 5/1!9@3", "", "3 4: 1=9@2 | 7/1@3 5/1!9@3", "behind all others, whatever its Priority"},
		{"3 4: 1=9@2 4 | 7/1 8/2", "call 5/4@3", "5", "3 5: 1=9@2 4=5@3 | 7/1 8/2", "ahead of others who wait for other skills"},
		{"3 4: 1=9@2 |", "call 0/1@3", "", "3 4: 1=9@2 | 0/1@3", "call 0"},
		{"3 4: 1@2 |", "call 1000000000/1@3", "1000000000", "3 5: 1=1000000000@3 |", "call MaxTick"},
		{"9 4: 1=9 | 5/1 6/2!3@4 7/1", "gone 5@9", "", "9 4: 1=9 | 6/2!3@4 7/1", "the first one gives up"},
		{"9 4: 1=9 | 5/1 6/2!3@4 7/1", "gone 6@11", "", "11 4: 1=9 | 5/1 7/1", "another one gives up"},
		{"9 4: 1=9 | 5/1 6/2!3@4 7/1", "gone 7@11", "", "11 4: 1=9 | 5/1 6/2!3@4", "the last one gives up"},
		{"9 4: 1=9 | 0/1", "gone 0@9", "", "9 4: 1=9 |", "the only one gives up"},
		{"9 4: 4 1=9 | 1000000000/1", "gone 1000000000@9", "", "9 4: 4 1=9 |", "call MaxTick gives up"},
		{"9 4: 1=9 3=8@2 |", "end 0@12", "", "12 4: 1@12 3=8@2 |", "an agent ends, nobody waits"},
		{"9 4: 1=9 3=8@2 |", "end 1@12", "", "12 4: 1=9 3@12 |", "the last agent ends"},
		{"9 4: 1=0 |", "end 0@9", "", "9 4: 1@9 |", "an agent ends call 0"},
		{"9 4: 1=9 3=8@2 | 5/2 6/1@3", "end 0@12", "6", "12 5: 1=6@12 3=8@2 | 5/2", "who has its skill is given"},
		{"9 4: 1=9 3=8@2 | 5/4 6/8@3", "end 1@12", "", "12 4: 1=9 3@12 | 5/4 6/8@3", "who waits has another skill"},
		{"9 4: 4 1=9 | 5/2 6/8", "skills 0/8@12", "6", "12 5: 8=6@12 1=9 | 5/2", "a skill for who waits"},
		{"9 4: 4@7 1=9 | 5/2 6/8", "skills 0/1@12", "", "12 4: 1@7 1=9 | 5/2 6/8", "a skill for nobody: Since stays"},
		{"9 4: 4@7 1=9@5 | 5/2 6/8", "skills 1/10@12", "", "12 4: 4@7 10=9@5 | 5/2 6/8", "of one who is Busy: nobody is given"},
		{"9 4: 4@7 1=9@5 |", "skills 0/0@12", "", "12 4: 0@7 1=9@5 |", "none any more"},
		{"9 4: 4@7 1=9@5 |", "skills 1/0@12", "", "12 4: 4@7 0=9@5 |", "none any more, of one who is Busy"},
		{"9 4: 4@7 1=9@5 | 5/128!2", "skills 0/255@9", "5", "9 5: 255=5@9 1=9@5 |", "all of them"},
		{"9 4: 4@7 1=9@5 | 5/128!2", "skills 1/255@9", "", "9 4: 4@7 255=9@5 | 5/128!2", "all of them, of one who is Busy"},
		{"9 4: 4@7 1=9@5 |", "skills 0/4@12", "", "12 4: 4@7 1=9@5 |", "the same as ever"},
	})
}

// P8: an agent that got other skills while it was Busy takes by these.
func TestDeskSkillsOfBusyAgent(t *testing.T) {
	d := deskOf("9 4: 1=9@5 | 5/2 6/1")
	d = checkDeskDone(t, "skills", d, deskOpOf("skills 0/2@10"))
	d = checkDeskDone(t, "end", d, deskOpOf("end 0@11"), 5)
	if !sameDesk(d, deskOf("11 5: 2=5@11 | 6/1")) {
		t.Error(textOfDesk(d))
	}
}

// P8: which of the callers is given, each tie by itself. The agent that ends
// has the skills 1 and 2.
func TestDeskTurns(t *testing.T) {
	head := "9 0: 3=70 |"
	cases := []struct {
		queue string
		given int
		why   string
	}{
		{"5/1!4 6/1!5 7/1!3", 6, "the greatest Priority"},
		{"5/1!4@1 6/1!5@9 7/1!3@0", 6, "the greatest Priority, though it came last"},
		{"5/1 6/1 7/1!1", 7, "Priority 1 ahead of 0"},
		{"5/1!8@1 6/2!9@9", 6, "the greatest Priority over two skills"},
		{"5/4!9 6/1!2 7/8!9", 6, "the greatest Priority of those with a skill of the agent"},
		{"5/1!4@8 6/1!4@3 7/1!4@5", 6, "the least Since"},
		{"5/1!4@3 6/1!4@2 7/2!4@1 8/1!3@0", 7, "the least Since over two skills"},
		{"5/4!4@0 6/1!4@3 7/2!4@2", 7, "the least Since of those with a skill of the agent"},
		{"9/1!4@3 6/1!4@3 7/1!4@3", 9, "the first in the Queue"},
		{"7/2!4@3 6/1!4@3", 7, "the first in the Queue over two skills"},
		{"8/1!4@4 7/1!4@3 6/2!4@3", 7, "the first of those with the least Since"},
		{"8/1!3@0 7/1!4@3 6/2!4@3", 7, "the first of those with the greatest Priority"},
		{"9/128!4@3 6/1!4@3 7/1!4@3", 6, "the first with a skill of the agent"},
	}
	for _, c := range cases {
		d := deskOf(head + " " + c.queue)
		got := checkDeskDone(t, c.why, d, deskOpOf("end 0@10"), c.given)
		want := copyOfDesk(d)
		want.Now, want.Given, want.Agents[0] = 10, 1, impl.Agent{Skills: 3, Busy: c.given, Since: 10}
		want.Queue = slices.DeleteFunc(want.Queue, func(waits impl.Waiting) bool { return waits.Call == c.given })
		if !sameDesk(got, want) {
			t.Errorf("%s: %s, not %s", c.why, textOfDesk(got), textOfDesk(want))
		}
	}
}

// P8: to which of the agents a call for skill 1 is given, each tie by itself.
func TestDeskAgents(t *testing.T) {
	cases := []struct {
		agents string
		want   int
		why    string
	}{
		{"7 1 3", 1, "the fewest Skills"},
		{"7@0 1@9 3@0", 1, "the fewest Skills, though it became free last"},
		{"7 129", 1, "two skills ahead of three, though their sum is greater"},
		{"129 7", 0, "the same the other way round"},
		{"255 225", 1, "four skills ahead of eight"},
		{"127 254 193", 2, "three skills ahead of seven"},
		{"2 4 3 8", 2, "not who has not the skill"},
		{"0 7 2", 1, "not who has no skill"},
		{"1=5 7 3", 2, "not who is Busy"},
		{"7 1=5 15 1=6", 0, "not who is Busy, whatever their places"},
		{"3@5 5@2 9@4", 1, "the least Since"},
		{"65@5 33@4 17@3", 2, "the least Since, whatever their sum"},
		{"7@0 5@2 9@1", 2, "the least Since of those with the fewest Skills"},
		{"2@0 5@2 9@1", 2, "the least Since of those with the skill"},
		{"1=5@0 1@3 1@2", 2, "the least Since of those not Busy"},
		{"3@2 3@2 3@2", 0, "the first"},
		{"17@2 3@2 5@2", 0, "the first, whatever their sum"},
		{"7@0 3@9 3@2 5@2 9@2", 2, "the first of those with the least Since"},
		{"2 1=5 3 3", 2, "the first that could take it"},
	}
	for _, c := range cases {
		d := deskOf("9 0: " + c.agents)
		got := checkDeskDone(t, c.why, d, deskOpOf("call 77/1!5@10"), 77)
		want := copyOfDesk(d)
		want.Now, want.Given = 10, 1
		want.Agents[c.want].Busy, want.Agents[c.want].Since = 77, 10
		if !sameDesk(got, want) {
			t.Errorf("%s: %s, not %s", c.why, textOfDesk(got), textOfDesk(want))
		}
	}
}

// P8: DeskBad for a desk that is none, whatever the op.
func TestDeskOpsOnWrongDesks(t *testing.T) {
	ops := deskOpsOf("call 77/1@100, call 77/1@1000000000, gone 7@100, gone 60@100, end 0@100, end 99@100, skills 0/0@100, skills 0/255@1000000000, end 0@-1, ? 0@100")
	for why, d := range wrongDesks() {
		for _, op := range ops {
			checkDeskRefused(t, why, d, op, impl.DeskBad)
		}
	}
}

// P8: kinds that are none.
func TestDeskKindsThatAreNone(t *testing.T) {
	for _, kind := range []int{math.MinInt, -4, -3, -2, -1, 0, 5, 6, 7, 8, 255, math.MaxInt} {
		for _, op := range deskOpsOf("? 0@100, ? 77/1@100, ? 60@100, ? 0/3@100, ? 1/8!1@100") {
			op.Kind = kind
			checkDeskRefused(t, "kind", plainDesk(), op, impl.DeskBad)
		}
	}
}

// rightDeskOps are ops that are done on the plain desk, a kind each.
func rightDeskOps() []impl.DeskOp {
	return deskOpsOf("call 77/1!5@100, gone 60@100, end 0@100, skills 0/5@100")
}

// P8, P21: Ticks below Now, at Now, above it and no ticks, of each kind.
func TestDeskTicks(t *testing.T) {
	for _, op := range rightDeskOps() {
		for _, tick := range endsAround(0, 100, impl.MaxTick) {
			op.Tick = tick
			got, given, code := impl.DoDesk(plainDesk(), op)
			if tick < 100 || tick > 1000000000 {
				checkDeskRefused(t, "tick", plainDesk(), op, impl.DeskBad)
				continue
			}
			if code != impl.DeskDone || got.Now != tick || !impl.DeskOk(got) {
				t.Errorf("%v: %s, given %v, %s", op, textOfDesk(got), given, deskCodeName(code))
			}
		}
	}
	for _, op := range deskOpsOf("call 5/1@0, skills 0/3@0") {
		checkDeskDone(t, "at the very beginning", deskOf("0 0: 0 |"), op)
	}
	for _, op := range deskOpsOf("call 5/1@1000000000, end 0@1000000000") {
		checkDeskDone(t, "at the very end", deskOf("1000000000 0: 0=6@1000000000 |"), op)
	}
}

// P8: what a kind does not have is 0.
func TestDeskOpsWithTooMuch(t *testing.T) {
	for _, op := range rightDeskOps() {
		for _, n := range []int{math.MinInt, -128, -1, 1, 2, 3, 128, 255, 256, math.MaxInt} {
			more := op
			if op.Kind == impl.DeskGone || op.Kind == impl.DeskEnd {
				more.Skill = n
				checkDeskRefused(t, "Skill", plainDesk(), more, impl.DeskBad)
			}
			more = op
			if op.Kind != impl.DeskCall {
				more.Priority = n
				checkDeskRefused(t, "Priority", plainDesk(), more, impl.DeskBad)
			}
		}
	}
}

// P8, P21: the numbers of a DeskCall, and of a DeskSkills, at their ends.
func TestDeskOpNumbers(t *testing.T) {
	d := deskOf("100 7: 3=50@20 | 60/1!5@30")
	for n := -300; n <= 1100; n++ {
		op := impl.DeskOp{Kind: impl.DeskCall, Tick: 100, Who: 77, Skill: n}
		if slices.Contains(eachSkill, n) {
			checkDeskDone(t, "Skill", d, op)
		} else {
			checkDeskRefused(t, "Skill", d, op, impl.DeskBad)
		}
		op = impl.DeskOp{Kind: impl.DeskCall, Tick: 100, Who: 77, Skill: 1, Priority: n}
		if n >= 0 && n <= 9 {
			checkDeskDone(t, "Priority", d, op)
		} else {
			checkDeskRefused(t, "Priority", d, op, impl.DeskBad)
		}
		op = impl.DeskOp{Kind: impl.DeskSkills, Tick: 100, Who: 0, Skill: n}
		if n >= 0 && n <= 255 {
			checkDeskDone(t, "Skills", d, op)
		} else {
			checkDeskRefused(t, "Skills", d, op, impl.DeskBad)
		}
	}
	for _, n := range endsAround(0, impl.MaxTick) {
		op := impl.DeskOp{Kind: impl.DeskCall, Tick: 100, Who: n, Skill: 1}
		if n >= 0 && n <= 1000000000 {
			checkDeskDone(t, "Who", d, op)
		} else {
			checkDeskRefused(t, "Who", d, op, impl.DeskBad)
		}
	}
	for _, n := range []int{math.MinInt, math.MaxInt} {
		checkDeskRefused(t, "far", d, impl.DeskOp{Kind: impl.DeskCall, Tick: 100, Who: 77, Skill: n}, impl.DeskBad)
		checkDeskRefused(t, "far", d, impl.DeskOp{Kind: impl.DeskCall, Tick: 100, Who: 77, Skill: 1, Priority: n}, impl.DeskBad)
		checkDeskRefused(t, "far", d, impl.DeskOp{Kind: impl.DeskSkills, Tick: 100, Skill: n}, impl.DeskBad)
	}
}

// P8: a call that waits already, or is talked to, for whatever it comes again.
func TestDeskCallThatIsThere(t *testing.T) {
	d := busyDesk(impl.MaxAgents-1, impl.MaxWaiting-1)
	d.Agents = append(d.Agents, impl.Agent{Busy: -1})
	calls := []int{0, 1, 38, 1000, 1001, 1010}
	for _, call := range calls {
		for _, skill := range eachSkill {
			op := impl.DeskOp{Kind: impl.DeskCall, Tick: 100, Who: call, Skill: skill, Priority: call % 10}
			checkDeskRefused(t, "there already", d, op, impl.DeskBad)
		}
	}
	for _, call := range []int{39, 999, 1011} {
		checkDeskDone(t, "not there", d, impl.DeskOp{Kind: impl.DeskCall, Tick: 100, Who: call, Skill: 1})
	}
	// One that has given up, or whose agent has ended, may come again.
	d = deskOf("9 0: 1=5 | 6/1 7/1")
	d = checkDeskDone(t, "gone", d, deskOpOf("gone 6@9"))
	d = checkDeskDone(t, "and comes again", d, deskOpOf("call 6/1@9"))
	d = checkDeskDone(t, "ended", d, deskOpOf("end 0@9"), 7)
	d = checkDeskDone(t, "and comes again", d, deskOpOf("call 5/1@9"))
	if !sameDesk(d, deskOf("9 1: 1=7@9 | 6/1@9 5/1@9")) {
		t.Error(textOfDesk(d))
	}
}

// P8: DeskNone of each kind.
func TestDeskNone(t *testing.T) {
	for _, op := range deskOpsOf("gone 63@100, gone 59@100, gone 0@100, gone 1@100, gone 1000000000@200, gone 50@100") {
		checkDeskRefused(t, "no such call waits", plainDesk(), op, impl.DeskNone)
	}
	for _, who := range []int{math.MinInt, -2, -1, 2, 3, 12, 50, 60, impl.MaxTick, impl.MaxTick + 1, math.MaxInt} {
		checkDeskRefused(t, "no such agent ends", plainDesk(), impl.DeskOp{Kind: impl.DeskEnd, Tick: 100, Who: who}, impl.DeskNone)
		for _, skills := range []int{0, 1, 255} {
			checkDeskRefused(t, "no such agent has skills", plainDesk(), impl.DeskOp{Kind: impl.DeskSkills, Tick: 101, Who: who, Skill: skills}, impl.DeskNone)
		}
	}
	for _, who := range []int{math.MinInt, -1, impl.MaxTick + 1, math.MaxInt} {
		checkDeskRefused(t, "what is no call does not wait", plainDesk(), impl.DeskOp{Kind: impl.DeskGone, Tick: 100, Who: who}, impl.DeskNone)
	}
	checkDeskRefused(t, "it is not Busy", plainDesk(), deskOpOf("end 1@100"), impl.DeskNone)
	checkDeskRefused(t, "it is not Busy, at the very beginning", deskOf("0 0: 0 |"), deskOpOf("end 0@0"), impl.DeskNone)
	d := busyDesk(impl.MaxAgents, 0)
	checkDeskDone(t, "the last of MaxAgents", d, deskOpOf("end 11@100"))
	checkDeskRefused(t, "one behind MaxAgents", d, deskOpOf("end 12@100"), impl.DeskNone)
}

// P8, P21: MaxWaiting may wait, one more may not; who is given does not wait.
func TestDeskFullOfWaiting(t *testing.T) {
	full := busyDesk(3, impl.MaxWaiting)
	for _, op := range deskOpsOf("call 77/1@100, call 77/128!9@1000000000, call 1000000000/2@101") {
		checkDeskRefused(t, "one too many", full, op, impl.DeskFull)
		got := checkDeskDone(t, "the last one", busyDesk(3, impl.MaxWaiting-1), op)
		if len(got.Queue) != 40 || got.Queue[39].Call != op.Who {
			t.Error(textOfDesk(got))
		}
	}
	free := copyOfDesk(full)
	for i := range free.Queue {
		free.Queue[i].Skill = 2
	}
	free.Agents[1] = impl.Agent{Skills: 1, Busy: -1}
	got := checkDeskDone(t, "given at once", free, deskOpOf("call 77/1@100"), 77)
	if len(got.Queue) != 40 || got.Agents[1].Busy != 77 {
		t.Error(textOfDesk(got))
	}
	checkDeskRefused(t, "the free agent has another skill", free, deskOpOf("call 77/4@100"), impl.DeskFull)
	checkDeskRefused(t, "the next one", got, deskOpOf("call 78/1@100"), impl.DeskFull)
	checkDeskDone(t, "one gives up", full, deskOpOf("gone 39@100"))
	checkDeskDone(t, "an agent ends", full, deskOpOf("end 0@100"), 9)
	checkDeskDone(t, "skills", full, deskOpOf("skills 0/0@100"))
}

// P8, P21: 1000000 may be Given, one more may not; what gives nobody may be.
func TestDeskFullOfGiven(t *testing.T) {
	for _, c := range []struct {
		desk  string
		op    string
		given string
	}{
		{"9 %d: 1@3 |", "call 5/1@9", "5"},
		{"9 %d: 1=4 | 5/2 6/1", "end 0@9", "6"},
		{"9 %d: 1 | 5/2 6/2!1", "skills 0/2@12", "6"},
		{"9 %d: 1=4 |", "call 5/1@9", ""},
		{"9 %d: 1=4 | 5/2 6/2", "end 0@9", ""},
		{"9 %d: 1=4 | 5/2 6/1", "gone 6@9", ""},
		{"9 %d: 1 | 5/2 6/2", "skills 0/4@12", ""},
		{"9 %d: 1=4 | 5/2 6/2", "skills 0/2@12", ""},
	} {
		for _, before := range []int{0, 999998, 999999, 1000000} {
			d, op := deskOf(fmt.Sprintf(c.desk, before)), deskOpOf(c.op)
			if c.given == "" {
				if got := checkDeskDone(t, "nobody is given", d, op); got.Given != before {
					t.Error(textOfDesk(got))
				}
			} else if before == 1000000 {
				checkDeskRefused(t, "one too many is given", d, op, impl.DeskFull)
			} else if call, _ := strconv.Atoi(c.given); checkDeskDone(t, "given", d, op, call).Given != before+1 {
				t.Errorf("%s, %s: Given is not one more than %d", c.desk, c.op, before)
			}
		}
	}
}

// P8: which of two reasons counts.
func TestDeskReasons(t *testing.T) {
	full := busyDesk(3, impl.MaxWaiting)
	last := deskOf("9 1000000: 1 4=6 | 5/2")
	cases := []struct {
		desk impl.Desk
		op   string
		want int
		why  string
	}{
		{full, "call 39/1@100", impl.DeskBad, "there already ahead of full"},
		{full, "call 1000/1@100", impl.DeskBad, "talked to ahead of full"},
		{full, "call 77/1@99", impl.DeskBad, "below Now ahead of full"},
		{full, "call 77/3@100", impl.DeskBad, "no skill ahead of full"},
		{full, "call 77/1!10@100", impl.DeskBad, "no Priority ahead of full"},
		{last, "call 6/1@9", impl.DeskBad, "there already ahead of too many Given"},
		{last, "call 7/1@8", impl.DeskBad, "below Now ahead of too many Given"},
		{last, "skills 0/258@9", impl.DeskBad, "no Skills ahead of too many Given"},
		{last, "skills 0/2!1@9", impl.DeskBad, "a Priority ahead of too many Given"},
		{last, "gone 77@8", impl.DeskBad, "below Now ahead of no such call"},
		{last, "gone 77/1@9", impl.DeskBad, "a Skill ahead of no such call"},
		{last, "gone -1!1@9", impl.DeskBad, "a Priority ahead of no such call"},
		{last, "end 0@8", impl.DeskBad, "below Now ahead of not Busy"},
		{last, "end 0/1@9", impl.DeskBad, "a Skill ahead of not Busy"},
		{last, "end 2@1000000001", impl.DeskBad, "no tick ahead of no such agent"},
		{last, "end -1!1@9", impl.DeskBad, "a Priority ahead of no such agent"},
		{last, "skills 2/256@9", impl.DeskBad, "no Skills ahead of no such agent"},
		{last, "skills -1/-1@9", impl.DeskBad, "no Skills ahead of no agent at all"},
		{last, "gone 77@9", impl.DeskNone, "no such call where no more may be Given"},
		{full, "end 3@100", impl.DeskNone, "no such agent where no more may wait"},
		{last, "skills 2/2@9", impl.DeskNone, "no such agent where no more may be Given"},
	}
	for _, c := range cases {
		checkDeskRefused(t, c.why, c.desk, deskOpOf(c.op), c.want)
	}
}
