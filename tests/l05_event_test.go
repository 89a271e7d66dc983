package tests

import (
	"fmt"
	"math"
	"slices"
	"strings"
	"testing"

	"loop.example/g00052/impl"
)

// ownTable tells what comes of a half's own events: the half, the event, the
// states, and what they become ("=" stays; "no": it may not be) with the
// signal that is sent. "+" behind a state takes the Call: the next one at
// EvStart, that of the signal below.
const ownTable = `
0 start  I    C+S
0 start  CTX  no
1 answer O    TA
1 answer ITX  no
0 clear  CT   XC
0 clear  IX   no
1 clear  OT   XC
1 clear  IX   no
0 timer  C    =S
0 timer  X    =C
0 timer  IT   =
1 timer  X    =C
1 timer  IOT  =
`

// heardTable tells what comes of a signal at a half: with a Call that is less
// than the half's, the same, and more (at half 0 there is none that is more).
const heardTable = `
0 S ICTX =  =
0 A ITX  =  =
0 A C    =  T
0 C ICTX =K IK
0 K ICT  =  =
0 K X    =  I
1 S IO   =  =  O+
1 S T    =  =A O+
1 S X    =  =C O+
1 A IOTX =  =  =
1 C IOTX =K IK I+K
1 K IOT  =  =  =
1 K X    =  I  =
`

// tableRow is the row of a table for a half, an event or a signal, and a state.
func tableRow(table string, half int, cue string, state int) []string {
	for _, line := range strings.Split(strings.TrimSpace(table), "\n") {
		words := strings.Fields(line)
		if words[0] == fmt.Sprint(half) && words[1] == cue && strings.IndexByte(words[2], stateLetters[state]) >= 0 {
			return words[3:]
		}
	}
	return nil
}

// turnedBy is a second telling of what a cell of a table makes of a duo.
func turnedBy(d impl.Duo, half int, cell string, call int) (impl.Duo, bool) {
	if cell == "no" {
		return d, false
	}
	h := &d.Halves[half]
	own := h.Call
	if cell[0] != '=' {
		h.State = strings.IndexByte(stateLetters, cell[0])
	}
	cell = cell[1:]
	if strings.HasPrefix(cell, "+") {
		own, h.Call, cell = call, call, cell[1:]
	}
	if cell == "K" {
		own = call
	}
	if cell != "" {
		d.Way = append(d.Way, impl.Sig{To: 1 - half, Kind: strings.Index(sigLetters, cell), Call: own})
	}
	return d, true
}

// secondEvent is a second telling of DoEvent for duos that are right: by the
// tables, on a copy, which is thrown away when too many are on the way.
func secondEvent(d impl.Duo, e impl.Event) (impl.Duo, bool) {
	after, ok := secondTry(copyOfDuo(d), e)
	if !ok || len(after.Way) > impl.MaxFlight {
		return copyOfDuo(d), false
	}
	return after, true
}

func secondTry(d impl.Duo, e impl.Event) (impl.Duo, bool) {
	halves := map[int]map[int]int{
		impl.EvStart:  {0: 0},
		impl.EvAnswer: {0: 1},
		impl.EvClear:  {0: 0, 1: 1},
		impl.EvTimer:  {0: 0, 1: 1},
	}
	if half, ok := halves[e.Kind][e.At]; ok {
		if e.Kind == impl.EvStart && d.Halves[0].Call >= 1000 {
			return d, false
		}
		row := tableRow(ownTable, half, eventNames()[e.Kind], d.Halves[half].State)
		return turnedBy(d, half, row[0], d.Halves[half].Call+1)
	}
	if e.Kind < impl.EvCarry || e.Kind > impl.EvDouble || e.At < 0 || e.At > len(d.Way)-1 {
		return d, false
	}
	s := d.Way[e.At]
	rest := append(slices.Clone(d.Way[:e.At]), d.Way[e.At+1:]...)
	switch e.Kind {
	case impl.EvDouble:
		d.Way = append(d.Way, s)
		return d, true
	case impl.EvLose:
		d.Way = rest
		return d, true
	}
	d.Way = rest
	h := d.Halves[s.To]
	row := tableRow(heardTable, s.To, sigLetters[s.Kind:s.Kind+1], h.State)
	column := 1
	if s.Call < h.Call {
		column = 0
	} else if s.Call > h.Call {
		column = 2
	}
	return turnedBy(d, s.To, row[column], s.Call)
}

// checkEvent holds DoEvent to its second telling.
func checkEvent(t *testing.T, d impl.Duo, e impl.Event) {
	t.Helper()
	got, ok := impl.DoEvent(d, e)
	want, wantOk := secondEvent(d, e)
	if ok != wantOk || !sameDuo(got, want) {
		t.Errorf("%v, %v: %v %v, not %v %v", d, e, got, ok, want, wantOk)
	}
	if !impl.DuoOk(got) {
		t.Errorf("%v, %v: %v is not ok", d, e, got)
	}
}

// P5: what each event makes of a duo.
func TestEvents(t *testing.T) {
	cases := []struct {
		duo   string
		event string
		want  string
		why   string
	}{
		{"I0 I0", "start 0", "C1 I0 1S1", "the first call"},
		{"I7 I7 0K7", "start 0", "C8 I7 0K7 1S8", "the next number, behind all others"},
		{"I3 T1", "start 0", "C4 T1 1S4", "half 1 may be anywhere"},
		{"C4 O4 1S4", "answer 0", "C4 T4 1S4 0A4", "answered"},
		{"C4 O2", "answer 0", "C4 T2 0A2", "with the Call of half 1, which sends"},
		{"C4 I2 1S4", "clear 0", "X4 I2 1S4 1C4", "half 0 gives up"},
		{"T4 T4", "clear 0", "X4 T4 1C4", "half 0 hangs up"},
		{"C4 O3", "clear 1", "C4 X3 0C3", "half 1 refuses an older one"},
		{"T4 T4", "clear 1", "T4 X4 0C4", "half 1 hangs up"},
		{"C4 O4", "timer 0", "C4 O4 1S4", "still calling"},
		{"X4 T4 1C4", "timer 0", "X4 T4 1C4 1C4", "still clearing"},
		{"C4 X2", "timer 1", "C4 X2 0C2", "still clearing an older one"},
		{"T4 T4", "timer 0", "T4 T4", "nothing happens"},
		{"T4 T4", "timer 1", "T4 T4", "nothing happens"},
		{"C4 O4", "timer 1", "C4 O4", "an offer says nothing"},
		{"I4 I4", "timer 0", "I4 I4", "nothing happens"},
		{"C1 I0 1S1", "carry 0", "C1 O1", "offered"},
		{"C4 T2 1S4", "carry 0", "C4 O4", "whatever it was: talking"},
		{"C4 X2 1S4", "carry 0", "C4 O4", "whatever it was: clearing"},
		{"C4 O2 1S4", "carry 0", "C4 O4", "whatever it was: offered"},
		{"C4 I2 1S3", "carry 0", "C4 O3", "not the newest one, but newer"},
		{"C4 T4 1S4", "carry 0", "C4 T4 0A4", "the answer was lost"},
		{"C4 X4 1S4", "carry 0", "C4 X4 0C4", "the clear was lost"},
		{"C4 O4 1S4", "carry 0", "C4 O4", "offered already"},
		{"C4 I4 1S4", "carry 0", "C4 I4", "over already"},
		{"C4 T4 1S3", "carry 0", "C4 T4", "an old one that came late"},
		{"C4 X4 1S3", "carry 0", "C4 X4", "an old one that came late"},
		{"C4 T4 0A4", "carry 0", "T4 T4", "both talk"},
		{"C4 I3 0A3", "carry 0", "C4 I3", "the answer of an older call"},
		{"X4 T4 0A4", "carry 0", "X4 T4", "given up meanwhile"},
		{"T4 T4 0A4", "carry 0", "T4 T4", "twice"},
		{"T4 X4 0C4", "carry 0", "I4 X4 1K4", "cleared"},
		{"C4 X4 0C4", "carry 0", "I4 X4 1K4", "refused"},
		{"X4 X4 0C4", "carry 0", "I4 X4 1K4", "both clear"},
		{"I4 X4 0C4", "carry 0", "I4 X4 1K4", "the ack was lost"},
		{"C4 X3 0C3", "carry 0", "C4 X3 1K3", "an older one has its ack, the new one stays"},
		{"T4 X4 0C3", "carry 0", "T4 X4 1K3", "with that Call, not with the half's"},
		{"X4 T4 1C4", "carry 0", "X4 I4 0K4", "cleared"},
		{"X4 O4 1C4", "carry 0", "X4 I4 0K4", "given up while it was offered"},
		{"X4 T3 1C4", "carry 0", "X4 I4 0K4", "one above: its seizure was lost"},
		{"C5 X2 1C4", "carry 0", "C5 I4 0K4", "one above, but not half 0's"},
		{"C5 T4 1C3", "carry 0", "C5 T4 0K3", "an older one has its ack, the new one stays"},
		{"X4 I4 0K4", "carry 0", "I4 I4", "cleared at both"},
		{"X4 I4 0K3", "carry 0", "X4 I4", "the ack of an older one"},
		{"C4 I4 0K4", "carry 0", "C4 I4", "no ack was asked for"},
		{"T4 T4 0K4", "carry 0", "T4 T4", "no ack was asked for"},
		{"I4 X4 1K4", "carry 0", "I4 I4", "cleared at both"},
		{"C4 X2 1K3", "carry 0", "C4 X2", "an ack above"},
		{"C4 X2 1K1", "carry 0", "C4 X2", "an ack below"},
		{"C4 T4 1K4", "carry 0", "C4 T4", "no ack was asked for"},
		{"C4 T4 0S4", "carry 0", "C4 T4", "a seizure at half 0"},
		{"I4 O4 0S4", "carry 0", "I4 O4", "a seizure at half 0"},
		{"C4 O4 1A4", "carry 0", "C4 O4", "an answer at half 1"},
		{"C4 O3 1A4", "carry 0", "C4 O3", "an answer at half 1"},
		{"C4 T4 1S1 1S4 0A3", "carry 1", "C4 T4 1S1 0A3 0A4", "the answer stands behind all others"},
		{"C4 T4 1S1 0K2 1S4", "carry 2", "C4 T4 1S1 0K2 0A4", "the last one"},
		{"C4 T4 1S4 1S1 0K2", "carry 0", "C4 T4 1S1 0K2 0A4", "the first one"},
		{"C4 T4 0C1 0C2 0C3", "carry 1", "C4 T4 0C1 0C3 1K2", "which one it is"},
		{"C4 T4 0C1 0C2 0C3", "lose 0", "C4 T4 0C2 0C3", "the first one is gone"},
		{"C4 T4 0C1 0C2 0C3", "lose 1", "C4 T4 0C1 0C3", "the middle one is gone"},
		{"C4 T4 0C1 0C2 0C3", "lose 2", "C4 T4 0C1 0C2", "the last one is gone"},
		{"C4 T4 0C1", "lose 0", "C4 T4", "the only one is gone"},
		{"C4 T4 0C1 0C2 0C3", "double 0", "C4 T4 0C1 0C2 0C3 0C1", "the first one once more"},
		{"C4 T4 0C1 0C2 0C3", "double 1", "C4 T4 0C1 0C2 0C3 0C2", "the middle one once more"},
		{"C4 T4 0C1 0C2 0C3", "double 2", "C4 T4 0C1 0C2 0C3 0C3", "the last one once more"},
		{"I999 I0", "start 0", "C1000 I0 1S1000", "the last call of all"},
		{"C1000 O1000", "answer 0", "C1000 T1000 0A1000", "the last call of all"},
	}
	for _, c := range cases {
		got, ok := impl.DoEvent(duoOf(c.duo), eventOf(c.event))
		if !ok || !sameDuo(got, duoOf(c.want)) {
			t.Errorf("%s, %s (%s): %v %v, not %s", c.duo, c.event, c.why, got, ok, c.want)
		}
	}
}

// P5: events that may not be leave the duo as it was.
func TestEventsRefused(t *testing.T) {
	cases := []struct {
		duo   string
		event string
		why   string
	}{
		{"C1 I0 1S1", "start 0", "in a call"},
		{"T1 T1", "start 0", "in a call"},
		{"X1 I1", "start 0", "not cleared yet"},
		{"I1000 I1000", "start 0", "no number is left"},
		{"I0 I0", "start 1", "At is not 0"},
		{"I0 I0", "start -1", "At is not 0"},
		{"C1 I0 1S1", "answer 0", "not offered yet"},
		{"C1 T1", "answer 0", "answered already"},
		{"C1 X1", "answer 0", "cleared already"},
		{"C1 O1", "answer 1", "At is not 0, though half 1 answers"},
		{"C1 O1", "answer -1", "At is not 0"},
		{"I1 T1", "clear 0", "in no call"},
		{"X1 T1", "clear 0", "clearing already"},
		{"T1 I1", "clear 1", "in no call"},
		{"T1 X1", "clear 1", "clearing already"},
		{"T1 T1", "clear 2", "no half"},
		{"T1 T1", "clear -1", "no half"},
		{"C1 X1", "timer 2", "no half"},
		{"C1 X1", "timer -1", "no half"},
		{"T1 T1", "timer 2", "no half, though nothing would happen"},
		{"C1 O1", "carry 0", "nothing is on the way"},
		{"C1 O1", "lose 0", "nothing is on the way"},
		{"C1 O1", "double 0", "nothing is on the way"},
		{"C1 O1 1S1 0A1", "carry 2", "past the end"},
		{"C1 O1 1S1 0A1", "lose 2", "past the end"},
		{"C1 O1 1S1 0A1", "double 2", "past the end"},
		{"C1 O1 1S1 0A1", "carry -1", "below 0"},
		{"C1 O1 1S1 0A1", "lose -1", "below 0"},
		{"C1 O1 1S1 0A1", "double -1", "below 0"},
	}
	for _, c := range cases {
		got, ok := impl.DoEvent(duoOf(c.duo), eventOf(c.event))
		if ok || !sameDuo(got, duoOf(c.duo)) {
			t.Errorf("%s, %s (%s): %v %v", c.duo, c.event, c.why, got, ok)
		}
	}
	for _, kind := range []int{-1, 0, 8, 99, math.MinInt, math.MaxInt} {
		for at := range 2 {
			got, ok := impl.DoEvent(duoOf("C1 O1 1S1 0A1"), impl.Event{Kind: kind, At: at})
			if ok || !sameDuo(got, duoOf("C1 O1 1S1 0A1")) {
				t.Errorf("kind %d: %v %v", kind, got, ok)
			}
		}
	}
	for kind := impl.EvStart; kind <= impl.EvDouble; kind++ {
		for _, at := range []int{math.MinInt, math.MaxInt} {
			checkEvent(t, duoOf("C1 O1 1S1 0A1"), impl.Event{Kind: kind, At: at})
			checkEvent(t, duoOf("I1 X1 1S1 0A1"), impl.Event{Kind: kind, At: at})
		}
	}
	for why, d := range wrongDuos() {
		for kind := -1; kind <= impl.EvDouble+1; kind++ {
			for at := range 2 {
				got, ok := impl.DoEvent(d, impl.Event{Kind: kind, At: at})
				if ok || !sameDuo(got, d) {
					t.Errorf("%s, event %d %d: %v %v", why, kind, at, got, ok)
				}
			}
		}
	}
}

// P5, P21: MaxFlight signals may be on the way, and none is sent behind them.
func TestFullWay(t *testing.T) {
	refused := map[string]string{
		"start 0":  "I4 I4",
		"answer 0": "C4 O4",
		"clear 0":  "C4 O4",
		"clear 1":  "T4 T4",
		"timer 0":  "C4 O4",
		"timer 1":  "I4 X4",
		"double 0": "I4 I4",
		"double 9": "T4 T4",
	}
	for event, text := range refused {
		d := withWay(text, impl.MaxFlight, "1K2")
		if got, ok := impl.DoEvent(d, eventOf(event)); ok || !sameDuo(got, d) {
			t.Errorf("%s, %s with the way full: %v %v", text, event, got, ok)
		}
		room := withWay(text, impl.MaxFlight-1, "1K2")
		got, ok := impl.DoEvent(room, eventOf(event))
		if !ok || len(got.Way) != impl.MaxFlight {
			t.Errorf("%s, %s with room for one: %v %v", text, event, got, ok)
		}
		checkEvent(t, d, eventOf(event))
		checkEvent(t, room, eventOf(event))
	}
	taken := []struct {
		duo   string
		sig   string
		event string
		left  int
		why   string
	}{
		{"X4 T4", "1S4", "carry 7", 40, "one is gone ahead of the answer"},
		{"X4 X4", "1S4", "carry 0", 40, "one is gone ahead of the clear"},
		{"T4 X4", "0C4", "carry 39", 40, "one is gone ahead of the ack"},
		{"T4 X2", "1C3", "carry 20", 40, "one is gone ahead of the ack"},
		{"C4 T4", "0A4", "carry 39", 39, "nothing is sent"},
		{"C4 T4", "0A4", "lose 39", 39, "gone"},
		{"T4 T4", "0A4", "timer 0", 40, "nothing is sent"},
		{"T4 O4", "0A4", "timer 1", 40, "nothing is sent"},
	}
	for _, c := range taken {
		d := withWay(c.duo, impl.MaxFlight, c.sig)
		got, ok := impl.DoEvent(d, eventOf(c.event))
		if !ok || len(got.Way) != c.left {
			t.Errorf("%s, %s with the way full (%s): %v %v", c.duo, c.event, c.why, got, ok)
		}
		checkEvent(t, d, eventOf(c.event))
	}
}

// P5: each event at each pair of halves, as the tables tell it: with nothing
// on the way, and with each signal as the first, a middle and the last one.
func TestEventsByTables(t *testing.T) {
	everyPair(3, func(halves [2]impl.Half) {
		for kind := -1; kind <= impl.EvDouble+1; kind++ {
			for at := -1; at <= 3; at++ {
				checkEvent(t, impl.Duo{Halves: halves}, impl.Event{Kind: kind, At: at})
			}
		}
		others := []impl.Sig{{To: 0, Kind: impl.SigAck}, {To: 1, Kind: impl.SigSeize, Call: halves[0].Call}}
		for to := range 2 {
			for kind := impl.SigSeize; kind <= impl.SigAck; kind++ {
				for call := range halves[0].Call + 1 {
					checkPlaces(t, halves, impl.Sig{To: to, Kind: kind, Call: call}, others)
				}
			}
		}
	})
}

func checkPlaces(t *testing.T, halves [2]impl.Half, s impl.Sig, others []impl.Sig) {
	t.Helper()
	for place := range len(others) + 1 {
		d := impl.Duo{Halves: halves, Way: slices.Insert(slices.Clone(others), place, s)}
		for kind := impl.EvStart; kind <= impl.EvDouble; kind++ {
			for at := range 4 {
				checkEvent(t, d, impl.Event{Kind: kind, At: at})
			}
		}
	}
}
