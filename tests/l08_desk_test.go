package tests

import (
	"fmt"
	"math"
	"regexp"
	"slices"
	"strconv"
	"strings"
	"testing"

	"loop.example/g00052/impl"
)

// The tests of queues write a desk as text: "9 2: 3=74@9 1 | 72/4@3 73/2!5".
// Ahead of the colon stand Now and Given. An agent is its Skills, behind a =
// the call it talks to (without one it is not Busy), behind an @ its Since. Who
// waits is the Call, behind a / its Skill, behind a ! its Priority, behind an @
// its Since; so are ops, "call 70/1!5@3", "gone 72@9", "end 0@9" (agent 0),
// "skills 1/2@11" (agent 1 has the Skills 2). What is left out is 0.

var deskWord = regexp.MustCompile(`^(-?\d+)(?:[/=](-?\d+))?(?:!(-?\d+))?(?:@(-?\d+))?$`)

var deskOpNames = []string{"?", "call", "gone", "end", "skills"}

var deskCodeNames = []string{"done", "bad", "full", "none"}

// deskNumbers are those of a word; the second is otherwise where it is left out.
func deskNumbers(word string, otherwise int) [4]int {
	parts := deskWord.FindStringSubmatch(word)
	if parts == nil {
		panic("no word of a desk: " + word)
	}
	numbers := [4]int{1: otherwise}
	for i, part := range parts[1:] {
		if part != "" {
			mustScan(part, "%d", &numbers[i])
		}
	}
	return numbers
}

func deskOf(text string) impl.Desk {
	var d impl.Desk
	head, rest, _ := strings.Cut(text, ":")
	mustScan(head, "%d %d", &d.Now, &d.Given)
	agents, queue, _ := strings.Cut(rest, "|")
	for _, word := range strings.Fields(agents) {
		n := deskNumbers(word, -1)
		d.Agents = append(d.Agents, impl.Agent{Skills: n[0], Busy: n[1], Since: n[3]})
	}
	for _, word := range strings.Fields(queue) {
		n := deskNumbers(word, 0)
		d.Queue = append(d.Queue, impl.Waiting{Call: n[0], Skill: n[1], Priority: n[2], Since: n[3]})
	}
	return d
}

func deskOpOf(text string) impl.DeskOp {
	name, word, _ := strings.Cut(text, " ")
	n := deskNumbers(word, 0)
	return impl.DeskOp{Kind: slices.Index(deskOpNames, name), Who: n[0], Skill: n[1], Priority: n[2], Tick: n[3]}
}

// deskOpsOf reads ops with commas between them.
func deskOpsOf(text string) []impl.DeskOp {
	var ops []impl.DeskOp
	for _, part := range strings.Split(text, ",") {
		ops = append(ops, deskOpOf(strings.TrimSpace(part)))
	}
	return ops
}

func textOfDesk(d impl.Desk) string {
	text := fmt.Sprintf("%d %d:", d.Now, d.Given)
	for _, agent := range d.Agents {
		text += fmt.Sprintf(" %d", agent.Skills)
		if agent.Busy != -1 {
			text += fmt.Sprintf("=%d", agent.Busy)
		}
		text += fmt.Sprintf("@%d", agent.Since)
	}
	text += " |"
	for _, waits := range d.Queue {
		text += fmt.Sprintf(" %d/%d!%d@%d", waits.Call, waits.Skill, waits.Priority, waits.Since)
	}
	return text
}

func deskCodeName(code int) string {
	if code < 0 || code >= len(deskCodeNames) {
		return strconv.Itoa(code)
	}
	return deskCodeNames[code]
}

func sameDesk(a impl.Desk, b impl.Desk) bool {
	return a.Now == b.Now && a.Given == b.Given && slices.Equal(a.Agents, b.Agents) && slices.Equal(a.Queue, b.Queue)
}

func copyOfDesk(d impl.Desk) impl.Desk {
	d.Agents, d.Queue = slices.Clone(d.Agents), slices.Clone(d.Queue)
	return d
}

// plainDesk is a right one with all of an agent that talks, one that does not,
// and several who wait.
func plainDesk() impl.Desk { return deskOf("100 7: 3=50@20 8@90 | 60/1!5@30 61/2@40 62/4@40") }

func changedDesk(change func(d *impl.Desk)) impl.Desk {
	d := plainDesk()
	change(&d)
	return d
}

// busyDesk has so many agents, all talking, and so many who wait.
func busyDesk(agents int, waiting int) impl.Desk {
	d := impl.Desk{Now: 100}
	for i := range agents {
		d.Agents = append(d.Agents, impl.Agent{Skills: 255, Busy: 1000 + i})
	}
	for i := range waiting {
		d.Queue = append(d.Queue, impl.Waiting{Call: i, Skill: 1 << (i % 8), Priority: i % 10, Since: i})
	}
	return d
}

// wrongDesks have one fault each, by what it is.
func wrongDesks() map[string]impl.Desk {
	return map[string]impl.Desk{
		"the zero value":                       {},
		"no agent":                             deskOf("0 0: |"),
		"no agent, some wait":                  deskOf("9 0: | 5/1 6/2"),
		"an agent too many":                    busyDesk(impl.MaxAgents+1, 3),
		"far too many agents":                  busyDesk(500, 3),
		"one too many waits":                   busyDesk(2, impl.MaxWaiting+1),
		"far too many wait":                    busyDesk(2, 500),
		"Skills -1":                            deskOf("9 0: 3=5 -1=6 |"),
		"Skills 256":                           deskOf("9 0: 256=5 3=6 |"),
		"Skills 256 of one not Busy":           deskOf("9 0: 3=5 256 |"),
		"Skills far below":                     changedDesk(func(d *impl.Desk) { d.Agents[0].Skills = math.MinInt }),
		"Skills far away":                      changedDesk(func(d *impl.Desk) { d.Agents[0].Skills = math.MaxInt }),
		"Busy -2":                              deskOf("9 0: 3=-2 |"),
		"Busy one past MaxTick":                deskOf("9 0: 3 3=1000000001 |"),
		"Busy far below":                       changedDesk(func(d *impl.Desk) { d.Agents[0].Busy = math.MinInt }),
		"two talk to one call":                 deskOf("9 0: 3=5 1=6 3=5 |"),
		"two talk to call 0":                   deskOf("9 0: 3=0 3=0 |"),
		"Skill 0":                              deskOf("9 0: 3=5 | 7/0"),
		"Skill 3":                              deskOf("9 0: 3=5 | 7/3"),
		"Skill 255":                            deskOf("9 0: 3=5 | 7/255"),
		"Skill 256":                            deskOf("9 0: 3=5 | 7/256"),
		"Skill -1":                             deskOf("9 0: 3=5 | 7/-1"),
		"Skill -128":                           deskOf("9 0: 3=5 | 7/-128"),
		"Skill far below":                      changedDesk(func(d *impl.Desk) { d.Queue[1].Skill = math.MinInt }),
		"Priority -1":                          deskOf("9 0: 3=5 | 7/1!-1"),
		"Priority 10":                          deskOf("9 0: 3=5 | 6/1 7/1!10"),
		"Call -1":                              deskOf("9 0: 3=5 | -1/1"),
		"Call -1, which nobody talks to":       deskOf("9 0: 2 | -1/1"),
		"Call one past MaxTick":                deskOf("9 0: 3=5 | 1000000001/1"),
		"a Call twice":                         deskOf("9 0: 3=5 | 7/1 7/1"),
		"a Call twice, for two skills":         deskOf("9 0: 3=5 | 7/1 8/1 7/2!3@4"),
		"an agent talks to who waits":          deskOf("9 0: 3=5 3=6 | 7/1 6/1"),
		"the first agent talks to who waits":   deskOf("9 0: 3=0 3=6 | 0/1 7/1"),
		"an agent's Since above Now":           deskOf("9 0: 3=5 3=6@10 |"),
		"a free agent's Since above Now":       deskOf("9 0: 3@10 |"),
		"an agent's Since below 0":             deskOf("9 0: 3=5@-1 |"),
		"a caller's Since above Now":           deskOf("9 0: 3=5 | 6/1@9 7/1@10"),
		"a caller's Since below 0":             deskOf("9 0: 3=5 | 7/1@-1"),
		"Now below 0":                          deskOf("-1 0: 3=5 |"),
		"Now and all Since below 0":            deskOf("-1 0: 3=5@-1 | 6/1@-1"),
		"Now past MaxTick":                     deskOf("1000000001 0: 3=5 |"),
		"Now far away":                         changedDesk(func(d *impl.Desk) { d.Now = math.MaxInt }),
		"Given below 0":                        deskOf("9 -1: 3=5 |"),
		"Given one too many":                   deskOf("9 1000001: 3=5 |"),
		"who waits could be given":             deskOf("9 0: 1 | 7/1"),
		"the last one could be given":          deskOf("9 0: 3=5 5 | 6/2 7/8 8/4"),
		"one could be given to the last agent": deskOf("9 0: 3=5 3=6 2 | 6/1 7/2"),
		"all could be given":                   deskOf("9 0: 255 255 255 | 6/1 7/2"),
	}
}

// P8, P21: desks that are right, at the limits too.
func TestDeskOk(t *testing.T) {
	good := map[string]impl.Desk{
		"one agent":                          deskOf("0 0: 0 |"),
		"an empty list":                      {Agents: []impl.Agent{{Busy: -1}}, Queue: []impl.Waiting{}},
		"nothing is left out":                plainDesk(),
		"MaxAgents and MaxWaiting":           busyDesk(impl.MaxAgents, impl.MaxWaiting),
		"all at the upper ends":              deskOf("1000000000 1000000: 255=1000000000@1000000000 | 999999999/128!9@1000000000"),
		"all at the lower ends":              deskOf("0 0: 0=0 | 1/1"),
		"several agents that are not Busy":   deskOf("5 0: 3 3 3@5 |"),
		"who waits lacks an agent's skill":   deskOf("5 0: 254 | 1/1 0/1"),
		"who waits finds only Busy agents":   deskOf("5 0: 255=2 254 1=3 | 1/1 0/1"),
		"the later ones stand first":         deskOf("9 0: 1=2 | 5/1@9 6/1@3"),
		"the less urgent ones stand first":   deskOf("9 0: 1=2 | 5/1!1 6/1!8"),
		"more talk than were given":          deskOf("9 0: 1=2 1=3 |"),
		"a call that is as an agent's place": deskOf("9 0: 1=1 1=0 | 2/1"),
	}
	for why, d := range good {
		if !impl.DeskOk(d) {
			t.Errorf("%s: %s is not ok", why, textOfDesk(d))
		}
	}
	for why, d := range wrongDesks() {
		if impl.DeskOk(d) {
			t.Errorf("%s: %s is ok", why, textOfDesk(d))
		}
	}
}

// P8, P21: how many agents, and how many who wait.
func TestDeskSizes(t *testing.T) {
	for agents := range 16 {
		for waiting := range 46 {
			want := agents >= 1 && agents <= 12 && waiting <= 40
			if got := impl.DeskOk(busyDesk(agents, waiting)); got != want {
				t.Errorf("%d agents, %d wait: %v", agents, waiting, got)
			}
		}
	}
}

// endsAround are the numbers around some, and those far away.
func endsAround(numbers ...int) []int {
	list := []int{math.MinInt, math.MinInt + 1, math.MaxInt - 1, math.MaxInt}
	for _, n := range numbers {
		list = append(list, n-2, n-1, n, n+1, n+2)
	}
	return list
}

// checkDeskEnds tries numbers at one place of a desk; those from least to most
// are right there.
func checkDeskEnds(t *testing.T, what string, text string, least int, most int, put func(d *impl.Desk, n int)) {
	t.Helper()
	for _, n := range endsAround(0, least, most, 255, 1000000, impl.MaxTick) {
		d := deskOf(text)
		put(&d, n)
		if got, want := impl.DeskOk(d), n >= least && n <= most; got != want {
			t.Errorf("%s at %d: %v", what, n, got)
		}
	}
}

// P8, P21: each number of a desk at its ends and past them.
func TestDeskNumbers(t *testing.T) {
	const one, two = "100 0: 0=50@20 0=51@20 |", "100 0: 255=50@20 | 60/1@30 61/2@40"
	checkDeskEnds(t, "Now", "0 0: 1=5 | 6/1", 0, 1000000000, func(d *impl.Desk, n int) { d.Now = n })
	checkDeskEnds(t, "Now over a Since", one, 20, 1000000000, func(d *impl.Desk, n int) { d.Now = n })
	checkDeskEnds(t, "Now over who waits", two, 40, 1000000000, func(d *impl.Desk, n int) { d.Now = n })
	checkDeskEnds(t, "Given", two, 0, 1000000, func(d *impl.Desk, n int) { d.Given = n })
	checkDeskEnds(t, "Skills", one, 0, 255, func(d *impl.Desk, n int) { d.Agents[0].Skills = n })
	checkDeskEnds(t, "the last one's Skills", one, 0, 255, func(d *impl.Desk, n int) { d.Agents[1].Skills = n })
	checkDeskEnds(t, "Busy", one, -1, 1000000000, func(d *impl.Desk, n int) { d.Agents[0].Busy = n })
	checkDeskEnds(t, "an agent's Since", one, 0, 100, func(d *impl.Desk, n int) { d.Agents[1].Since = n })
	checkDeskEnds(t, "an agent's Since at the end", "1000000000 0: 1 |", 0, 1000000000, func(d *impl.Desk, n int) { d.Agents[0].Since = n })
	checkDeskEnds(t, "Call", two, 0, 1000000000, func(d *impl.Desk, n int) { d.Queue[0].Call = n })
	checkDeskEnds(t, "the last Call", two, 0, 1000000000, func(d *impl.Desk, n int) { d.Queue[1].Call = n })
	checkDeskEnds(t, "Priority", two, 0, 9, func(d *impl.Desk, n int) { d.Queue[0].Priority = n })
	checkDeskEnds(t, "the last Priority", two, 0, 9, func(d *impl.Desk, n int) { d.Queue[1].Priority = n })
	checkDeskEnds(t, "a caller's Since", two, 0, 100, func(d *impl.Desk, n int) { d.Queue[1].Since = n })
	checkDeskEnds(t, "a caller's Since at the end", "1000000000 0: 1=2 | 3/1", 0, 1000000000, func(d *impl.Desk, n int) { d.Queue[0].Since = n })
}

var eachSkill = []int{1, 2, 4, 8, 16, 32, 64, 128}

// P8: what is one skill, and which are some.
func TestDeskSkillNumbers(t *testing.T) {
	for n := -300; n <= 1100; n++ {
		d := deskOf(fmt.Sprintf("9 0: 255=5 | 6/1 7/%d", n))
		if got, want := impl.DeskOk(d), slices.Contains(eachSkill, n); got != want {
			t.Errorf("Skill %d: %v", n, got)
		}
		d = deskOf(fmt.Sprintf("9 0: 1=5 %d=8 | 6/1", n))
		if got, want := impl.DeskOk(d), n >= 0 && n <= 255; got != want {
			t.Errorf("Skills %d: %v", n, got)
		}
	}
}

// hasSkill takes a sum of skills apart from its greatest one down.
func hasSkill(skills int, skill int) bool {
	for _, one := range slices.Backward(eachSkill) {
		if skills >= one {
			if one == skill {
				return true
			}
			skills -= one
		}
	}
	return false
}

// P8: nobody waits whom an agent that is not Busy could take, by all Skills
// and each Skill.
func TestDeskOfWhoCouldBeGiven(t *testing.T) {
	for skills := range 256 {
		for _, skill := range eachSkill {
			for _, form := range []string{"9 0: %d 255=4 | 6/%d", "9 0: 255=4 %d@9 | 6/%d!9@9", "9 0: %d | 6/%d"} {
				d := deskOf(fmt.Sprintf(form, skills, skill))
				if got, want := impl.DeskOk(d), !hasSkill(skills, skill); got != want {
					t.Errorf("%s: %v", textOfDesk(d), got)
				}
				d.Agents[0].Busy, d.Agents[len(d.Agents)-1].Busy = 1, 1+len(d.Agents)
				if !impl.DeskOk(d) {
					t.Errorf("%s, all are Busy: not ok", textOfDesk(d))
				}
			}
		}
	}
}

// P8: a call stands once, wherever both places are.
func TestDeskCallsTwice(t *testing.T) {
	places := func(d *impl.Desk) []*int {
		var list []*int
		for i := range d.Agents {
			list = append(list, &d.Agents[i].Busy)
		}
		for i := range d.Queue {
			list = append(list, &d.Queue[i].Call)
		}
		return list
	}
	n := impl.MaxAgents + impl.MaxWaiting
	for one := range n {
		for two := range one {
			d := busyDesk(impl.MaxAgents, impl.MaxWaiting)
			list := places(&d)
			*list[one] = *list[two]
			if impl.DeskOk(d) {
				t.Errorf("a call at places %d and %d: ok", two, one)
			}
		}
	}
}

// P8: Served of a call that an agent talks to, that waits, that does neither.
func TestServed(t *testing.T) {
	cases := []struct {
		desk  string
		call  int
		kind  int
		place int
		why   string
	}{
		{"9 0: 3=70 1=71 | 72/1 73/2 74/1", 70, 0, 0, "the first agent"},
		{"9 0: 3=70 1=71 | 72/1 73/2 74/1", 71, 0, 1, "the last agent"},
		{"9 0: 3=70 1=71 | 72/1 73/2 74/1", 72, 1, 0, "the first one who waits"},
		{"9 0: 3=70 1=71 | 72/1 73/2 74/1", 73, 1, 1, "another one"},
		{"9 0: 3=70 1=71 | 72/1 73/2 74/1", 74, 1, 2, "the last one"},
		{"9 0: 3=70 1=71 | 72/1 73/2 74/1", 75, 2, -1, "neither"},
		{"9 0: 3=70 1=71 | 72/1 73/2 74/1", 0, 2, -1, "a place is no call"},
		{"9 0: 3=70 1=71 | 72/1 73/2 74/1", 1, 2, -1, "nor is a skill"},
		{"9 0: 8 1=71 | 72/1", -1, 2, -1, "an agent that is not Busy talks to no call"},
		{"9 0: 8 |", -1, 2, -1, "nor one alone"},
		{"9 0: 8 |", -2, 2, -1, "no call"},
		{"9 0: 8 |", 8, 2, -1, "nobody is there"},
		{"9 0: 8 1=0 | 1000000000/1", 0, 0, 1, "call 0"},
		{"9 0: 8 1=0 | 1000000000/1", 1000000000, 1, 0, "call MaxTick"},
		{"9 0: 8 1=1000000000 | 0/1", 0, 1, 0, "call 0 waits"},
		{"9 0: 8 1=1000000000 | 0/1", 1000000001, 2, -1, "one past MaxTick"},
		{"9 0: 8 1=1000000000 | 0/1", math.MaxInt, 2, -1, "far away"},
		{"9 0: 8 1=1000000000 | 0/1", math.MinInt, 2, -1, "far below"},
	}
	for _, c := range cases {
		if kind, place := impl.Served(deskOf(c.desk), c.call); kind != c.kind || place != c.place {
			t.Errorf("%s: %s, %d: %d %d", c.why, c.desk, c.call, kind, place)
		}
	}
}

// P8, P21: Served over a desk that is full, and over desks that are none.
func TestServedOfAll(t *testing.T) {
	d := busyDesk(impl.MaxAgents, impl.MaxWaiting)
	for i := range impl.MaxAgents {
		if kind, place := impl.Served(d, 1000+i); kind != 0 || place != i {
			t.Errorf("agent %d: %d %d", i, kind, place)
		}
	}
	for i := range impl.MaxWaiting {
		if kind, place := impl.Served(d, i); kind != 1 || place != i {
			t.Errorf("place %d: %d %d", i, kind, place)
		}
	}
	for why, d := range wrongDesks() {
		calls := []int{-2, -1, 0, 1, 5, 6, 7, 8, 50, 60, 61, 1000, impl.MaxTick, impl.MaxTick + 1}
		for _, call := range calls {
			if kind, place := impl.Served(d, call); kind != 2 || place != -1 {
				t.Errorf("%s, %d: %d %d", why, call, kind, place)
			}
		}
	}
}
