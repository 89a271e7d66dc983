package tests

import (
	"fmt"
	"slices"
	"sync"
	"testing"

	"loop.example/g00052/impl"
)

var strangeSample = impl.Sample{Re: 4321, Im: -1234}

// memorySamples are lists of every length that plays a part.
func memorySamples() [][]impl.Sample {
	r := drawn(1413)
	var lists [][]impl.Sample
	for _, n := range []int{0, 1, 2, 3, 26, 199, 200, 201, 250} {
		lists = append(lists, samplesFrom(drawList(&r, n, drawSmall)))
	}
	return lists
}

// tellSamples is what all calls answer to two lists, as text.
func tellSamples(list, other []impl.Sample) string {
	text := fmt.Sprintln(impl.Sums(list))
	text += fmt.Sprintln(impl.Match14(list, other))
	for _, taps := range []int{0, 1, 2, 8, 9} {
		text += fmt.Sprintln(impl.Learn(list, other, taps, 0.125))
	}
	return text
}

// P14: nothing is written into lists or behind them, and nothing there is read.
func TestSamplesMemory(t *testing.T) {
	for _, list := range memorySamples() {
		for _, other := range [][]impl.Sample{slices.Clone(list), append(slices.Clone(list), strangeSample)} {
			slices.Reverse(other)
			want := tellSamples(slices.Clip(slices.Clone(list)), slices.Clip(slices.Clone(other)))
			for _, mark := range []impl.Sample{{}, strangeSample} {
				a, b := guard(mark, list), guard(mark, other)
				if got := tellSamples(a.list, b.list); got != want || !a.untouched() || !b.untouched() {
					t.Errorf("%d and %d samples: written into, or another answer: %s, not %s", len(list), len(other), got, want)
				}
			}
		}
		// One list in both places.
		want := tellSamples(list, slices.Clone(list))
		g := guard(strangeSample, list)
		if got := tellSamples(g.list, g.list); got != want || !g.untouched() {
			t.Errorf("%d samples twice: written into, or another answer: %s, not %s", len(list), got, want)
		}
	}
}

// P14: an answer shares no memory with an argument, nor with another answer,
// nor do both lists of Learn with each other.
func TestLearnStandsApart(t *testing.T) {
	r := drawn(1414)
	for _, n := range []int{0, 1, 2, 8, 9, 200} {
		for taps := 1; taps <= 8; taps++ {
			list, want := samplesFrom(drawList(&r, n, drawSmall)), samplesFrom(drawList(&r, n, drawSmall))
			a, b := guard(strangeSample, list), guard(strangeSample, want)
			missed, learnt, _ := impl.Learn(a.list, b.list, taps, 0.125)
			missed2, learnt2, _ := impl.Learn(a.list, b.list, taps, 0.125)
			wantMissed, wantLearnt := slices.Clone(missed), slices.Clone(learnt)
			scribble(missed, strangeSample)
			if !slices.Equal(learnt, wantLearnt) {
				t.Errorf("%d samples, %d taps: both lists share memory", n, taps)
			}
			scribble(learnt, strangeSample)
			missed3, learnt3, _ := impl.Learn(list, want, taps, 0.125)
			if !slices.Equal(missed2, wantMissed) || !slices.Equal(learnt2, wantLearnt) ||
				!slices.Equal(missed3, wantMissed) || !slices.Equal(learnt3, wantLearnt) || !a.untouched() || !b.untouched() {
				t.Errorf("%d samples, %d taps: shared with an argument or another answer", n, taps)
			}
			scribble(list, strangeSample)
			scribble(want, strangeSample)
			if !slices.Equal(missed3, wantMissed) || !slices.Equal(learnt3, wantLearnt) {
				t.Errorf("%d samples, %d taps: an argument is handed out", n, taps)
			}
		}
	}
}

func TestTurnsStandApart(t *testing.T) {
	for _, n := range []int{0, 1, 2, 199, 200} {
		by := impl.Sample{Re: 0.8, Im: 0.6}
		first, _ := impl.Turns(by, n)
		second, _ := impl.Turns(by, n)
		want := slices.Clone(second)
		scribble(first, strangeSample)
		third, _ := impl.Turns(by, n)
		if !slices.Equal(second, want) || !slices.Equal(third, want) {
			t.Errorf("%d turns: shared", n)
		}
	}
}

// P14: no call plays a part in what another one answers, nor do several at once.
func TestSamplesKeepNothing(t *testing.T) {
	lists := memorySamples()
	var want []string
	for _, list := range lists {
		want = append(want, tellSamples(list, list))
	}
	for i, list := range lists {
		for _, other := range lists {
			tellSamples(other, list)
			impl.Turns(strangeSample, i)
			impl.QuotSample(strangeSample, impl.Sample{})
			if got := tellSamples(list, list); got != want[i] {
				t.Fatalf("list %d: another answer behind another call: %s", i, got)
			}
		}
	}
	var all sync.WaitGroup
	got := make([][]string, 6)
	for one := range got {
		all.Go(func() {
			for _, list := range lists {
				got[one] = append(got[one], tellSamples(list, list))
			}
		})
	}
	all.Wait()
	for _, told := range got {
		if !slices.Equal(told, want) {
			t.Error("several at once are answered otherwise")
		}
	}
}
