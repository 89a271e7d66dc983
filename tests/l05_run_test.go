package tests

import (
	"math"
	"slices"
	"testing"

	"loop.example/g00052/impl"
)

// drawEvent draws one that may be more often than not: a place on the way is
// often one that is there.
func drawEvent(r *drawn, way int) impl.Event {
	e := impl.Event{Kind: 1 + r.below(7)}
	switch e.Kind {
	case impl.EvClear, impl.EvTimer:
		e.At = r.below(2)
	case impl.EvCarry, impl.EvLose, impl.EvDouble:
		e.At = r.below(way + 1)
	}
	if r.below(20) == 0 {
		e.At = r.below(5) - 2
	}
	return e
}

// drawDuo draws one that is right, with up to so many on the way, whether or
// not it could come from a beginning.
func drawDuo(r *drawn, most int) impl.Duo {
	from := []int{impl.HalfIdle, impl.HalfCalling, impl.HalfTalking, impl.HalfClearing}
	to := []int{impl.HalfIdle, impl.HalfOffered, impl.HalfTalking, impl.HalfClearing}
	call := r.below(4)
	d := impl.Duo{Halves: [2]impl.Half{
		{State: from[r.below(4)], Call: call},
		{State: to[r.below(4)], Call: r.below(call + 1)},
	}}
	for range r.below(most + 1) {
		d.Way = append(d.Way, impl.Sig{To: r.below(2), Kind: 1 + r.below(4), Call: r.below(call + 1)})
	}
	return d
}

// P5: all events one after the other; those that may not be change nothing.
func TestRunDuo(t *testing.T) {
	cases := []struct {
		duo    string
		events string
		want   string
		why    string
	}{
		{"I0 I0", "start 0, carry 0, answer 0, carry 0", "T1 T1", "a call"},
		{"I0 I0", "start 0, carry 0, answer 0, carry 0, clear 0, carry 0, carry 0", "I1 I1", "and its end"},
		{"I0 I0", "start 0, start 0, answer 0, carry 1, clear 2, clear 1, carry 0", "C1 O1", "many that may not be"},
		{"I0 I0", "answer 0, carry 0, start 0", "C1 I0 1S1", "the first ones may not be"},
		{"T2 T2", "clear 0, clear 1, carry 0, carry 0, carry 0, carry 0", "I2 I2", "both clear"},
		{"I1 I1", "start 0, clear 0, lose 0, carry 0, carry 0, start 0", "C3 I2 1S3", "half 1 hears of its end alone"},
		{"C1 O1", "answer 0, clear 1, carry 0, carry 0", "I1 X1 1K1", "half 1 answers and clears"},
		{"C1 I0 1S1", "lose 0, timer 0, double 0, carry 0, answer 0, carry 0", "C1 T1 0A1 0A1", "the doubled one is answered too"},
		{"I1 I1", "start 0, clear 0, carry 1, carry 0, carry 0, start 0", "C3 I2 1S3", "the clear came first, the seizure is old"},
		{"T1 T1", "timer 0, timer 1, lose 0", "T1 T1", "nothing happens"},
	}
	for _, c := range cases {
		if got := impl.RunDuo(duoOf(c.duo), eventsOf(c.events)); !sameDuo(got, duoOf(c.want)) {
			t.Errorf("%s, %s (%s): %v, not %s", c.duo, c.events, c.why, got, c.want)
		}
	}
	for why, d := range wrongDuos() {
		for _, events := range [][]impl.Event{nil, eventsOf("start 0, carry 0, lose 0")} {
			if got := impl.RunDuo(d, events); !sameDuo(got, d) {
				t.Errorf("%s: %v", why, got)
			}
		}
	}
	if got := impl.RunDuo(duoOf("C3 I2 1S3"), nil); !sameDuo(got, duoOf("C3 I2 1S3")) {
		t.Errorf("no events: %v", got)
	}
	r := drawn(51)
	for range 3000 {
		first := drawDuo(&r, impl.MaxFlight)
		var events []impl.Event
		want := first
		for range r.below(40) {
			e := drawEvent(&r, len(want.Way))
			events = append(events, e)
			want, _ = secondEvent(want, e)
		}
		if got := impl.RunDuo(first, events); !sameDuo(got, want) {
			t.Errorf("%v, %v: %v, not %v", first, events, got, want)
		}
	}
}

// P21: MaxEvents events, and one more.
func TestRunDuoLimit(t *testing.T) {
	most := slices.Repeat(eventsOf("start 0, clear 0, lose 0, carry 0, carry 0"), impl.MaxEvents/5)
	if got := impl.RunDuo(impl.Duo{}, most); len(most) != 300 || !sameDuo(got, duoOf("I60 I60")) {
		t.Errorf("%d events: %v", len(most), got)
	}
	if got := impl.RunDuo(duoOf("T1 T1 0A1"), append(most, eventOf("timer 0"))); !sameDuo(got, impl.Duo{}) {
		t.Errorf("one event more: %v", got)
	}
	none := slices.Repeat([]impl.Event{{}}, impl.MaxEvents+1)
	if got := impl.RunDuo(duoOf("T1 T1 0A1"), none); !sameDuo(got, impl.Duo{}) {
		t.Errorf("one too many, none of which may be: %v", got)
	}
	if got := impl.RunDuo(duoOf("T1 T1 0A1"), none[1:]); !sameDuo(got, duoOf("T1 T1 0A1")) {
		t.Errorf("none that may be: %v", got)
	}
	for why, d := range wrongDuos() {
		if got := impl.RunDuo(d, none); !sameDuo(got, impl.Duo{}) {
			t.Errorf("%s, too many events: %v", why, got)
		}
	}
	full := impl.RunDuo(impl.Duo{}, append(eventsOf("start 0"), slices.Repeat(eventsOf("double 0"), 60)...))
	if !sameDuo(full, withWay("C1 I0", impl.MaxFlight, "1S1")) {
		t.Errorf("doubled till the way is full: %v", full)
	}
}

// secondSettle is a second telling of Settle, by the tables of the events:
// carrying stands ahead of each round's timers, and once more behind the last.
func secondSettle(d impl.Duo, rounds int) impl.Duo {
	for round := range rounds + 1 {
		for len(d.Way) > 0 {
			d, _ = secondEvent(d, impl.Event{Kind: impl.EvCarry})
		}
		if round < rounds {
			d, _ = secondEvent(d, impl.Event{Kind: impl.EvTimer, At: 0})
			d, _ = secondEvent(d, impl.Event{Kind: impl.EvTimer, At: 1})
		}
	}
	return d
}

// P5: rounds of carrying and of timers.
func TestSettle(t *testing.T) {
	cases := []struct {
		duo    string
		rounds int
		want   string
		why    string
	}{
		{"I0 I0", 0, "I0 I0", "the beginning"},
		{"I0 I0", 20, "I0 I0", "the beginning"},
		{"C1 I0", 0, "C1 I0", "no timer runs in no round"},
		{"C1 I0", 1, "C1 O1", "what the timer sends is carried in the end"},
		{"C1 I0 1S1", 0, "C1 O1", "all are carried in the end"},
		{"C4 T4 1S4", 0, "T4 T4", "those that are sent meanwhile too"},
		{"T4 X4 1S4", 0, "I4 I4", "a clear and an ack are sent meanwhile"},
		{"C4 T4", 1, "T4 T4", "the timer has the answer said again"},
		{"X4 T4", 1, "I4 I4", "half 0's timer clears both"},
		{"T4 X4", 1, "I4 I4", "half 1's timer clears both"},
		{"C4 X4", 1, "I4 I4", "half 1's timer, behind that of half 0"},
		{"C4 X3", 1, "C4 O4", "an older one is left for the new one"},
		{"X4 T3", 1, "I4 I4", "half 1 hears of it by its end"},
		{"X4 X4", 1, "I4 I4", "both clear"},
		{"C4 T4 1S4 1C4", 0, "T4 I4", "the first one first: answered, then cleared"},
		{"C4 T4 1C4 1S4", 0, "C4 I4", "the first one first: cleared, then nothing"},
		{"C4 T4 1C4 1S4", 3, "C4 I4", "one that no beginning leads to may never agree"},
		{"I3 I2", 3, "I3 I2", "nobody has anything to say"},
	}
	for _, c := range cases {
		if got := impl.Settle(duoOf(c.duo), c.rounds); !sameDuo(got, duoOf(c.want)) {
			t.Errorf("%s, %d rounds (%s): %v, not %s", c.duo, c.rounds, c.why, got, c.want)
		}
	}
	full := []struct {
		duo  string
		sig  string
		want string
	}{
		{"C4 T4", "1S4", "T4 T4"},
		{"T4 X4", "1S4", "I4 I4"},
		{"T4 T3", "1C4", "T4 I4"},
		{"C4 T4", "0C4", "I4 T4"},
		{"C4 T2", "1S4", "C4 O4"},
	}
	for _, c := range full {
		d := withWay(c.duo, impl.MaxFlight, c.sig)
		if got := impl.Settle(d, 0); !sameDuo(got, duoOf(c.want)) {
			t.Errorf("%s with the way full of %s: %v", c.duo, c.sig, got)
		}
	}
}

// P5, P21: 0 to 20 rounds are taken, no others, and no duo that is not right.
func TestSettleLimits(t *testing.T) {
	for _, rounds := range []int{0, 1, 3, 19, 20} {
		if got := impl.Settle(duoOf("T1 T1 0A1"), rounds); !sameDuo(got, duoOf("T1 T1")) {
			t.Errorf("%d rounds: %v", rounds, got)
		}
	}
	for _, rounds := range []int{-1, 21, math.MinInt, math.MaxInt} {
		if got := impl.Settle(duoOf("T1 T1 0A1"), rounds); !sameDuo(got, impl.Duo{}) {
			t.Errorf("%d rounds: %v", rounds, got)
		}
	}
	for why, d := range wrongDuos() {
		for _, rounds := range []int{-1, 0, 3, 20, 21} {
			if got := impl.Settle(d, rounds); !sameDuo(got, impl.Duo{}) {
				t.Errorf("%s, %d rounds: %v", why, rounds, got)
			}
		}
	}
}

// P5: Settle as it is told a second time, for duos that no beginning leads to too.
func TestSettleDrawn(t *testing.T) {
	r := drawn(52)
	for range 4000 {
		d := drawDuo(&r, impl.MaxFlight)
		for rounds := range 4 {
			got, want := impl.Settle(d, rounds), secondSettle(d, rounds)
			if !sameDuo(got, want) {
				t.Errorf("%v, %d rounds: %v, not %v", d, rounds, got, want)
			}
		}
	}
}

// reachable are all duos that events lead to from the beginning, with at most
// so great a Call and so many on the way.
func reachable(call int, way int) []impl.Duo {
	list := []impl.Duo{{}}
	seen := map[string]bool{textOfDuo(impl.Duo{}): true}
	for at := 0; at < len(list); at++ {
		for kind := impl.EvStart; kind <= impl.EvDouble; kind++ {
			for place := range max(2, len(list[at].Way)) {
				d, ok := impl.DoEvent(list[at], impl.Event{Kind: kind, At: place})
				text := textOfDuo(d)
				if !ok || seen[text] || d.Halves[0].Call > call || len(d.Way) > way {
					continue
				}
				seen[text] = true
				list = append(list, d)
			}
		}
	}
	return list
}

// P5: whatever happens on the way, both agree behind three rounds.
func TestAllAgree(t *testing.T) {
	// Many calls with few on the way, and few calls with more of them.
	for _, most := range [][2]int{{5, 2}, {3, 3}} {
		list := reachable(most[0], most[1])
		if len(list) < 4000 {
			t.Fatalf("only %d duos were reached", len(list))
		}
		for _, d := range list {
			checkSettled(t, d)
		}
	}
}

func checkSettled(t *testing.T, d impl.Duo) impl.Duo {
	t.Helper()
	s := impl.Settle(d, 3)
	if !impl.Agree(s) || len(s.Way) != 0 || s.Halves[0].Call != d.Halves[0].Call {
		t.Errorf("%v settles as %v", d, s)
	}
	return s
}

// isOver asks whether a call is over at a half: it is in none, or in a later one.
func isOver(h impl.Half, call int) bool {
	return h.Call > call || h.Call == call && h.State == impl.HalfIdle
}

// clearing is a run that remembers the last call that each half has cleared.
type clearing struct {
	duo     impl.Duo
	cleared [2]int
}

func (c *clearing) do(e impl.Event) bool {
	next, ok := impl.DoEvent(c.duo, e)
	if ok && e.Kind == impl.EvClear {
		c.cleared[e.At] = next.Halves[e.At].Call
	}
	c.duo = next
	return ok
}

// check asks for what one half cleared: it is never in that call again but to
// clear it, and when all is settled it is over at both.
func (c *clearing) check(t *testing.T) {
	t.Helper()
	settled := checkSettled(t, c.duo)
	for half, call := range c.cleared {
		h := c.duo.Halves[half]
		if !isOver(h, call) && (h.Call != call || h.State != impl.HalfClearing) {
			t.Errorf("half %d has cleared %d, and is %v", half, call, h)
		}
		if !isOver(settled.Halves[0], call) || !isOver(settled.Halves[1], call) {
			t.Errorf("half %d has cleared %d: %v settles as %v", half, call, c.duo, settled)
		}
	}
}

// P5: over many drawn events from the beginning both agree in the end, a call
// that one half clears is over at both, and the next one has the next number.
func TestClearedIsOver(t *testing.T) {
	r := drawn(53)
	for range 300 {
		var c clearing
		for step := range impl.MaxEvents {
			c.do(drawEvent(&r, len(c.duo.Way)))
			if step%7 == 0 {
				c.check(t)
			}
			if r.below(60) == 0 {
				c.duo = impl.Settle(c.duo, 3)
			}
		}
		checkNextCall(t, &c)
	}
}

func checkNextCall(t *testing.T, c *clearing) {
	t.Helper()
	c.duo = impl.Settle(c.duo, 3)
	if c.duo.Halves[0].State != impl.HalfIdle {
		c.do(eventOf("clear 0"))
		c.duo = impl.Settle(c.duo, 3)
	}
	call := c.duo.Halves[0].Call
	idle := impl.Half{State: impl.HalfIdle, Call: call}
	if c.duo.Halves != [2]impl.Half{idle, idle} {
		t.Errorf("not idle at both: %v", c.duo)
	}
	ok := c.do(eventOf("start 0"))
	want := []impl.Sig{{To: 1, Kind: impl.SigSeize, Call: call + 1}}
	if !ok || c.duo.Halves[0] != (impl.Half{State: impl.HalfCalling, Call: call + 1}) || !slices.Equal(c.duo.Way, want) {
		t.Errorf("the call behind %d: %v %v", call, c.duo, ok)
	}
	c.check(t)
}

// P5: a thousand calls, of which each is lost once on its way, and no more.
func TestThousandCalls(t *testing.T) {
	var d impl.Duo
	for call := 1; call <= 1000; call++ {
		d = impl.RunDuo(d, eventsOf("start 0, lose 0"))
		d = impl.RunDuo(impl.Settle(d, 1), eventsOf("answer 0, lose 0"))
		d = impl.Settle(d, 1)
		talk := impl.Half{State: impl.HalfTalking, Call: call}
		if d.Halves != [2]impl.Half{talk, talk} {
			t.Fatalf("call %d: %v", call, d)
		}
		d = impl.Settle(impl.RunDuo(d, []impl.Event{{Kind: impl.EvClear, At: call % 2}, {Kind: impl.EvLose}}), 1)
		idle := impl.Half{State: impl.HalfIdle, Call: call}
		if d.Halves != [2]impl.Half{idle, idle} || len(d.Way) != 0 {
			t.Fatalf("call %d is not over: %v", call, d)
		}
	}
	if got, ok := impl.DoEvent(d, eventOf("start 0")); ok || !sameDuo(got, d) {
		t.Errorf("one call more: %v %v", got, ok)
	}
}
