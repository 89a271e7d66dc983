package tests

import (
	"fmt"
	"maps"
	"slices"
	"testing"

	"loop.example/g00052/impl"
)

// What lies behind the lists of a guarded desk would change an answer, were it
// read: an agent that could take all, and one who waits ahead of all.
var (
	spareAgent   = impl.Agent{Skills: 255, Busy: -1}
	spareWaiting = impl.Waiting{Call: 999, Skill: 1, Priority: 9}
	spareDeskOp  = impl.DeskOp{Kind: impl.DeskCall, Tick: impl.MaxTick, Who: 998, Skill: 1}
)

// guardedDesk is a desk whose lists have spare room behind them.
type guardedDesk struct {
	desk   impl.Desk
	agents guarded[impl.Agent]
	queue  guarded[impl.Waiting]
}

func guardDesk(d impl.Desk) *guardedDesk {
	g := &guardedDesk{agents: guard(spareAgent, d.Agents), queue: guard(spareWaiting, d.Queue)}
	d.Agents, d.Queue = g.agents.list, g.queue.list
	g.desk = d
	return g
}

func (g *guardedDesk) untouched() bool { return g.agents.untouched() && g.queue.untouched() }

// scribbleDesk writes into all that a desk reaches.
func scribbleDesk(d impl.Desk) {
	scribble(d.Agents, impl.Agent{Skills: -7, Busy: -7, Since: -7})
	scribble(d.Queue, impl.Waiting{Call: -8, Skill: -8, Priority: -8, Since: -8})
}

// memoryDesks are right and wrong ones, the wrong ones sorted by why.
func memoryDesks() []impl.Desk {
	list := []impl.Desk{
		plainDesk(),
		deskOf("0 0: 1 |"),
		deskOf("100 0: 1=5 2=6 | 60/1"),
		deskOf("100 0: 1=50 2 3@4 |"),
		deskOf("100 1000000: 1=50 2 | 60/1 61/1!3"),
		busyDesk(impl.MaxAgents, impl.MaxWaiting),
		busyDesk(3, impl.MaxWaiting-1),
	}
	wrong := wrongDesks()
	for _, why := range slices.Sorted(maps.Keys(wrong)) {
		list = append(list, wrong[why])
	}
	return list
}

// memoryDeskOps are done on some of these, and refused in each way by others.
func memoryDeskOps() []impl.DeskOp {
	return deskOpsOf("call 77/1@100, call 77/2!9@100, call 60/1@100, gone 60@100, gone 61@100, gone 0@100, gone 39@100, gone 77@100, end 0@100, end 1@100, end 2@100, end 12@100, skills 0/255@100, skills 1/255@100, skills 1/0@100, skills 12/1@100, call 77/1@9, ? 0@100")
}

// P8: no op writes into a desk or behind its lists, reads what lies there, or
// answers what shares memory with it.
func TestDoDeskMemory(t *testing.T) {
	for _, d := range memoryDesks() {
		for _, op := range memoryDeskOps() {
			want, wantGiven, wantCode := impl.DoDesk(copyOfDesk(d), op)
			g := guardDesk(d)
			got, given, code := impl.DoDesk(g.desk, op)
			if !g.untouched() {
				t.Fatalf("%s, %v: written into", textOfDesk(d), op)
			}
			scribble(g.agents.whole, impl.Agent{Skills: -5})
			scribble(g.queue.whole, impl.Waiting{Call: -5})
			if !sameDesk(got, want) || !slices.Equal(given, wantGiven) || code != wantCode {
				t.Fatalf("%s, %v: the answer hangs on the argument's memory", textOfDesk(d), op)
			}
			g = guardDesk(d)
			got, given, _ = impl.DoDesk(g.desk, op)
			scribbleDesk(got)
			scribble(given, -6)
			if !g.untouched() {
				t.Fatalf("%s, %v: the argument shares with the answer", textOfDesk(d), op)
			}
		}
	}
}

// P8: the same of a run, and its two lists of numbers are apart.
func TestRunDeskMemory(t *testing.T) {
	for _, d := range memoryDesks() {
		for n := range len(memoryDeskOps()) + 1 {
			ops := guard(spareDeskOp, memoryDeskOps()[:n])
			want, wantGiven, wantCodes := impl.RunDesk(copyOfDesk(d), memoryDeskOps()[:n])
			g := guardDesk(d)
			got, given, codes := impl.RunDesk(g.desk, ops.list)
			if !g.untouched() || !ops.untouched() {
				t.Fatalf("%s, %d ops: written into", textOfDesk(d), n)
			}
			scribble(g.agents.whole, impl.Agent{Skills: -5})
			scribble(g.queue.whole, impl.Waiting{Call: -5})
			scribble(ops.whole, impl.DeskOp{Kind: -5})
			if !sameDesk(got, want) || !slices.Equal(given, wantGiven) || !slices.Equal(codes, wantCodes) {
				t.Fatalf("%s, %d ops: the answer hangs on an argument's memory", textOfDesk(d), n)
			}
			checkRunApart(t, d, n)
		}
	}
}

// checkRunApart writes into each list of an answer in turn.
func checkRunApart(t *testing.T, d impl.Desk, n int) {
	t.Helper()
	g, ops := guardDesk(d), guard(spareDeskOp, memoryDeskOps()[:n])
	got, given, codes := impl.RunDesk(g.desk, ops.list)
	first := fmt.Sprint(codes)
	scribble(given, -6)
	if fmt.Sprint(codes) != first {
		t.Fatalf("%s, %d ops: lists of the answer share", textOfDesk(d), n)
	}
	first = fmt.Sprint(given)
	scribble(codes, -7)
	scribbleDesk(got)
	if fmt.Sprint(given) != first {
		t.Fatalf("%s, %d ops: lists of the answer share", textOfDesk(d), n)
	}
	if !g.untouched() || !ops.untouched() {
		t.Fatalf("%s, %d ops: an argument shares with the answer", textOfDesk(d), n)
	}
}

// P8: DeskOk and Served write into nothing and read nothing behind the lists.
func TestDeskOkMemory(t *testing.T) {
	for _, d := range memoryDesks() {
		g := guardDesk(d)
		if impl.DeskOk(g.desk) != impl.DeskOk(copyOfDesk(d)) {
			t.Errorf("%s: what lies behind the lists is read", textOfDesk(d))
		}
		for _, call := range []int{-1, 0, 5, 50, 60, 999, 1000} {
			kind, place := impl.Served(g.desk, call)
			wantKind, wantPlace := impl.Served(copyOfDesk(d), call)
			if kind != wantKind || place != wantPlace {
				t.Errorf("%s, %d: what lies behind the lists is read", textOfDesk(d), call)
			}
		}
		if !g.untouched() {
			t.Errorf("%s: written into", textOfDesk(d))
		}
	}
}

// P8: nothing is kept from one op to another: the same desk answers the same.
func TestDeskKeepsNothing(t *testing.T) {
	for _, d := range memoryDesks() {
		for _, op := range memoryDeskOps() {
			one, given, code := impl.DoDesk(d, op)
			first := fmt.Sprint(textOfDesk(one), given, code)
			impl.DoDesk(one, deskOpOf("end 0@100"))
			impl.RunDesk(one, memoryDeskOps())
			two, again, same := impl.DoDesk(d, op)
			if fmt.Sprint(textOfDesk(two), again, same) != first || fmt.Sprint(textOfDesk(one), given, code) != first {
				t.Fatalf("%s, %v: %s at first, then %s", textOfDesk(d), op, first, textOfDesk(two))
			}
		}
	}
}
