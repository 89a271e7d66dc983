package tests

import (
	"testing"

	"loop.example/g00052/impl"
)

func memoryDuos() []impl.Duo {
	return []impl.Duo{
		{},
		duoOf("I3 I3 0C1 1K2 1S3"),
		duoOf("C3 O3 1S3 0C3 1C2 0K3"),
		duoOf("T3 T3 1S3 0A3"),
		duoOf("C4 T2 1S4"),
		duoOf("X3 X3 1C3 0C3"),
		withWay("C3 O3", impl.MaxFlight, "1S3"),
		withWay("I3 T3", impl.MaxFlight-1, "1S3"),
		duoOf("O3 C3 1S3 0C3"),
		duoOf("T3 T9 1S3 0A3"),
		withWay("I3 I3", impl.MaxFlight+1, "1S3"),
	}
}

var strangeSig = impl.Sig{To: 7, Kind: 7, Call: -7}

// checkDuoMemory calls with a duo that has spare room behind its way: neither
// that nor the duo is written into, and what is answered is told apart from it.
func checkDuoMemory(t *testing.T, name string, d impl.Duo, call func(d impl.Duo) impl.Duo) {
	t.Helper()
	way := guard(strangeSig, d.Way)
	given := impl.Duo{Halves: d.Halves, Way: way.list}
	first := copyOfDuo(call(given))
	if !way.untouched() {
		t.Errorf("%s wrote into %v", name, d)
	}
	answer := call(given)
	if !sameDuo(answer, first) {
		t.Errorf("%s of %v: %v, then %v", name, d, first, answer)
	}
	scribble(answer.Way, strangeSig)
	if !way.untouched() {
		t.Errorf("%s of %v shares its way", name, d)
	}
	answer = call(given)
	scribble(way.whole, strangeSig)
	if !sameDuo(answer, first) {
		t.Errorf("%s of %v: its answer changed with the argument", name, d)
	}
}

// P5: nothing is written into an argument, and no answer shares memory with one.
func TestDuoMemory(t *testing.T) {
	for _, d := range memoryDuos() {
		for kind := 0; kind <= impl.EvDouble; kind++ {
			for at := -1; at <= 3; at++ {
				e := impl.Event{Kind: kind, At: at}
				checkDuoMemory(t, "DoEvent", d, func(d impl.Duo) impl.Duo {
					after, _ := impl.DoEvent(d, e)
					return after
				})
				checkDuoMemory(t, "RunDuo", d, func(d impl.Duo) impl.Duo {
					return impl.RunDuo(d, []impl.Event{e, {Kind: impl.EvTimer}, {Kind: impl.EvCarry}})
				})
			}
		}
		checkDuoMemory(t, "RunDuo", d, func(d impl.Duo) impl.Duo { return impl.RunDuo(d, nil) })
		for _, rounds := range []int{-1, 0, 1, 3} {
			checkDuoMemory(t, "Settle", d, func(d impl.Duo) impl.Duo { return impl.Settle(d, rounds) })
		}
		checkDuoMemory(t, "DuoOk and Agree", d, func(d impl.Duo) impl.Duo {
			impl.DuoOk(d)
			impl.Agree(d)
			return impl.Duo{}
		})
	}
}

// P5: the events are not written into, nor read behind their length.
func TestEventsMemory(t *testing.T) {
	events := guard(impl.Event{Kind: impl.EvStart}, eventsOf("start 0, carry 0, clear 1, double 0, lose 0"))
	for _, d := range memoryDuos() {
		impl.RunDuo(d, events.list)
	}
	if !events.untouched() {
		t.Errorf("the events were written into")
	}
	if got := impl.RunDuo(impl.Duo{}, events.list[:0]); !sameDuo(got, impl.Duo{}) {
		t.Errorf("events behind the end were read: %v", got)
	}
}
