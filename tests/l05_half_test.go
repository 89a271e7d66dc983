package tests

import (
	"fmt"
	"maps"
	"math"
	"slices"
	"strings"
	"testing"

	"loop.example/g00052/impl"
)

// The tests of halves write a duo as text: half 0 and half 1, each by its
// state (I idle, C calling, O offered, T talking, X clearing) and its Call,
// then the signals on the way, each by whom it goes to, its kind (S seize,
// A answer, C clear, K ack) and its Call: "C3 T2 1S3 0A2". An event is its
// name and its At: "carry 1".

const (
	stateLetters = "ICOTX"
	sigLetters   = "-SACK"
)

func eventNames() []string {
	return []string{"-", "start", "answer", "clear", "timer", "carry", "lose", "double"}
}

func halfFrom(word string) impl.Half {
	h := impl.Half{State: strings.IndexByte(stateLetters, word[0])}
	mustScan(word[1:], "%d", &h.Call)
	return h
}

func textOfHalf(h impl.Half) string {
	return fmt.Sprintf("%c%d", stateLetters[h.State], h.Call)
}

func sigFrom(word string) impl.Sig {
	s := impl.Sig{To: int(word[0] - '0'), Kind: strings.IndexByte(sigLetters, word[1])}
	mustScan(word[2:], "%d", &s.Call)
	return s
}

func duoOf(text string) impl.Duo {
	words := strings.Fields(text)
	d := impl.Duo{Halves: [2]impl.Half{halfFrom(words[0]), halfFrom(words[1])}}
	for _, word := range words[2:] {
		d.Way = append(d.Way, sigFrom(word))
	}
	return d
}

// textOfDuo is for those that are right.
func textOfDuo(d impl.Duo) string {
	words := []string{textOfHalf(d.Halves[0]), textOfHalf(d.Halves[1])}
	for _, s := range d.Way {
		words = append(words, fmt.Sprintf("%d%c%d", s.To, sigLetters[s.Kind], s.Call))
	}
	return strings.Join(words, " ")
}

func eventOf(text string) impl.Event {
	var name string
	var e impl.Event
	mustScan(text, "%s %d", &name, &e.At)
	e.Kind = slices.Index(eventNames(), name)
	return e
}

func eventsOf(text string) []impl.Event {
	var events []impl.Event
	for _, part := range strings.Split(text, ",") {
		events = append(events, eventOf(strings.TrimSpace(part)))
	}
	return events
}

func sameDuo(d impl.Duo, e impl.Duo) bool {
	return d.Halves == e.Halves && slices.Equal(d.Way, e.Way)
}

func copyOfDuo(d impl.Duo) impl.Duo {
	d.Way = slices.Clone(d.Way)
	return d
}

// withWay is the duo of a text with so many signals on the way, all alike.
func withWay(text string, n int, word string) impl.Duo {
	d := duoOf(text)
	d.Way = slices.Repeat([]impl.Sig{sigFrom(word)}, n)
	return d
}

// everyPair visits each pair of halves that are right, with each Call up to most.
func everyPair(most int, visit func(halves [2]impl.Half)) {
	for _, from := range []int{impl.HalfIdle, impl.HalfCalling, impl.HalfTalking, impl.HalfClearing} {
		for _, to := range []int{impl.HalfIdle, impl.HalfOffered, impl.HalfTalking, impl.HalfClearing} {
			for call := range most + 1 {
				for less := range call + 1 {
					visit([2]impl.Half{{State: from, Call: call}, {State: to, Call: less}})
				}
			}
		}
	}
}

// wrongDuos have one fault each, by what it is.
func wrongDuos() map[string]impl.Duo {
	const good = "C3 T3 0A3 1S3 1K1"
	with := func(change func(d *impl.Duo)) impl.Duo {
		d := duoOf(good)
		change(&d)
		return d
	}
	return map[string]impl.Duo{
		"half 0 offered":             duoOf("O3 T3 0A3"),
		"half 1 calling":             duoOf("C3 C3 0A3"),
		"both the other way":         duoOf("O0 C0"),
		"state of half 0 below 0":    with(func(d *impl.Duo) { d.Halves[0].State = -1 }),
		"state of half 0 too great":  with(func(d *impl.Duo) { d.Halves[0].State = 5 }),
		"state of half 1 below 0":    with(func(d *impl.Duo) { d.Halves[1].State = -1 }),
		"state of half 1 too great":  with(func(d *impl.Duo) { d.Halves[1].State = 5 }),
		"state far away":             with(func(d *impl.Duo) { d.Halves[1].State = math.MaxInt }),
		"Call of half 0 below 0":     {Halves: [2]impl.Half{{Call: -1}, {Call: 0}}},
		"both Calls below 0":         {Halves: [2]impl.Half{{Call: -1}, {Call: -1}}},
		"Call of half 1 below 0":     {Halves: [2]impl.Half{{Call: 0}, {Call: -1}}},
		"Call of half 1 far below":   {Halves: [2]impl.Half{{Call: 7}, {Call: math.MinInt}}},
		"Call of half 0 past 1000":   duoOf("C1001 I1000"),
		"both Calls past 1000":       duoOf("I1001 I1001"),
		"Call of half 0 far past":    {Halves: [2]impl.Half{{Call: math.MaxInt}, {}}},
		"Call of half 1 one more":    duoOf("C3 T4"),
		"Call of half 1 alone":       duoOf("I0 I1"),
		"a signal's Call one more":   duoOf("C3 T3 1S4"),
		"the last one's Call more":   duoOf("C3 T2 1S3 0A2 1C4"),
		"a signal's Call below 0":    duoOf("C3 T3 1S-1"),
		"a signal's Call below half": {Way: []impl.Sig{{To: 1, Kind: impl.SigSeize, Call: -1}}},
		"a signal to -1":             with(func(d *impl.Duo) { d.Way[1].To = -1 }),
		"a signal to 2":              with(func(d *impl.Duo) { d.Way[1].To = 2 }),
		"a signal of kind 0":         with(func(d *impl.Duo) { d.Way[1].Kind = 0 }),
		"a signal of kind 5":         with(func(d *impl.Duo) { d.Way[1].Kind = 5 }),
		"the last one of kind -1":    with(func(d *impl.Duo) { d.Way[2].Kind = -1 }),
		"an empty signal":            {Way: []impl.Sig{{}}},
		"one signal too many":        withWay("C3 T3", impl.MaxFlight+1, "0A3"),
		"far too many signals":       withWay("C3 T3", 1000, "0A3"),
	}
}

// P5, P21: a duo that is right, at the limits too.
func TestDuoOk(t *testing.T) {
	good := map[string]impl.Duo{
		"the beginning":               {},
		"an empty way":                {Way: []impl.Sig{}},
		"Call 1000 at both":           duoOf("T1000 T1000"),
		"Call 1000 at half 0":         duoOf("C1000 I999 1S1000 1C0 0K1000"),
		"Call 0, not idle":            duoOf("X0 T0 0A0"),
		"less at half 1":              duoOf("C3 O0"),
		"signals that do nothing":     duoOf("C3 O3 0S3 1A3"),
		"every kind to both":          duoOf("C3 O3 0S0 0A1 0C2 0K3 1S0 1A1 1C2 1K3"),
		"MaxFlight signals":           withWay("C3 O3", impl.MaxFlight, "1S3"),
		"a Call above that of half 1": duoOf("C3 O1 0A2 0C3 0K3"),
	}
	for why, d := range good {
		if !impl.DuoOk(d) {
			t.Errorf("%s: %v is not ok", why, d)
		}
	}
	for why, d := range wrongDuos() {
		if impl.DuoOk(d) {
			t.Errorf("%s: %v is ok", why, d)
		}
	}
	everyPair(3, func(halves [2]impl.Half) {
		if d := (impl.Duo{Halves: halves}); !impl.DuoOk(d) {
			t.Errorf("%s is not ok", textOfDuo(d))
		}
	})
}

// P5: each state at each half.
func TestStatesOfHalves(t *testing.T) {
	oks := [2]map[int]bool{
		{impl.HalfIdle: true, impl.HalfCalling: true, impl.HalfTalking: true, impl.HalfClearing: true},
		{impl.HalfIdle: true, impl.HalfOffered: true, impl.HalfTalking: true, impl.HalfClearing: true},
	}
	for half, ok := range oks {
		for state := -2; state <= 7; state++ {
			var d impl.Duo
			d.Halves[half].State = state
			if got := impl.DuoOk(d); got != ok[state] {
				t.Errorf("half %d, state %d: %v", half, state, got)
			}
		}
	}
}

// P5: a signal by its To, its Kind and its Call.
func TestSignalsOfDuo(t *testing.T) {
	for to := -2; to <= 3; to++ {
		for kind := -1; kind <= 6; kind++ {
			for call := -2; call <= 4; call++ {
				d := duoOf("C2 I1 1S2 0C1")
				d.Way = slices.Insert(d.Way, 1, impl.Sig{To: to, Kind: kind, Call: call})
				ok := (to == 0 || to == 1) && slices.Contains([]int{1, 2, 3, 4}, kind) && slices.Contains([]int{0, 1, 2}, call)
				if impl.DuoOk(d) != ok {
					t.Errorf("to %d, kind %d, Call %d: %v", to, kind, call, !ok)
				}
			}
		}
	}
}

// P5: whether both agree, by their states and by whether they have the same Call.
func TestAgree(t *testing.T) {
	same := []string{"II", "TT", "CO"}
	less := []string{"CI"}
	everyPair(3, func(halves [2]impl.Half) {
		states := textOfHalf(halves[0])[:1] + textOfHalf(halves[1])[:1]
		want := slices.Contains(same, states)
		if halves[1].Call < halves[0].Call {
			want = slices.Contains(less, states)
		}
		for _, way := range [][]impl.Sig{nil, {{To: 1, Kind: impl.SigAck}}} {
			if got := impl.Agree(impl.Duo{Halves: halves, Way: way}); got != want {
				t.Errorf("%s %s, way %v: %v", textOfHalf(halves[0]), textOfHalf(halves[1]), way, got)
			}
		}
	})
	cases := []struct {
		duo  string
		want bool
		why  string
	}{
		{"I0 I0", true, "the beginning"},
		{"C1 I0", true, "the seizure may be lost"},
		{"C1000 I0", true, "a Call far less"},
		{"C1 I1", false, "half 1 has heard of it, and it is over there"},
		{"C2 O1", false, "offered an older one"},
		{"C2 T1", false, "talking in an older one"},
		{"T2 T1", false, "talking in two calls"},
		{"I2 I1", false, "idle, but half 1 never heard of the last one"},
		{"C2 T2", false, "the answer is on the way"},
		{"X2 X2", false, "both clear"},
		{"T1 O1", false, "half 0 alone talks"},
		{"I1000 I1000", true, "the last call of all"},
	}
	for _, c := range cases {
		if got := impl.Agree(duoOf(c.duo)); got != c.want {
			t.Errorf("%s (%s): %v", c.duo, c.why, got)
		}
	}
	wrong := wrongDuos()
	maps.Copy(wrong, map[string]impl.Duo{
		"idle below 0":         {Halves: [2]impl.Half{{Call: -1}, {Call: -1}}},
		"idle past 1000":       duoOf("I1001 I1001"),
		"calling past 1000":    duoOf("C1001 I3"),
		"a signal of no call":  {Way: []impl.Sig{{To: 1, Kind: impl.SigSeize, Call: 1}}},
		"more than MaxFlight":  withWay("T3 T3", impl.MaxFlight+1, "0A3"),
		"half 0 is offered":    duoOf("O2 O2"),
		"half 1 is the caller": duoOf("O2 C2"),
		"states alike, none":   {Halves: [2]impl.Half{{State: 5}, {State: 5}}},
	})
	for why, d := range wrong {
		if impl.Agree(d) {
			t.Errorf("%s: %v agrees", why, d)
		}
	}
}
