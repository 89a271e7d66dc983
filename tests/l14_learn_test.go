package tests

import (
	"slices"
	"testing"

	"loop.example/g00052/impl"
)

// A secondLearner tells in which order its sums are added and its products
// multiplied, so that others can be held against it.
type secondLearner struct {
	backwards bool      // the sum begins with the last tap
	rateFirst bool      // e is multiplied by rate ahead of the sample
	adding    precision // that of y
}

var plainLearner = secondLearner{adding: single}

// learn asks the list itself for what stands at each tap: nothing is moved.
func (how secondLearner) learn(list, want []parts, taps int, rate float64) (missed, learnt []parts) {
	learnt = make([]parts, taps)
	heard := func(i int) parts {
		if i < 0 {
			return parts{}
		}
		return list[i]
	}
	for i := range list {
		var y parts
		for k := range taps {
			if how.backwards {
				k = taps - 1 - k
			}
			y = how.adding.partSum(y, sampleProduct(learnt[k], heard(i-k)))
		}
		e := single.partDifference(want[i], y.in(single))
		for k := range taps {
			step := sampleProduct(parts{rate, 0}, sampleProduct(e, heard(i-k).turned()))
			if how.rateFirst {
				step = sampleProduct(sampleProduct(parts{rate, 0}, e), heard(i-k).turned())
			}
			learnt[k] = single.partSum(learnt[k], step)
		}
		missed = append(missed, e)
	}
	return missed, learnt
}

func checkLearn(t *testing.T, list, want []parts, taps int, rate float64, missed, learnt []parts) {
	t.Helper()
	got, gotTaps, ok := impl.Learn(samplesFrom(list), samplesFrom(want), taps, float32(rate))
	if !ok || !sameSamples(got, missed) || !sameSamples(gotTaps, learnt) {
		t.Errorf("Learn(%x, %x, %d, %x): %x, %x and %t, not %x and %x", list, want, taps, rate, got, gotTaps, ok, missed, learnt)
	}
}

func checkLearnAsSecond(t *testing.T, list, want []parts, taps int, rate float64) (missed, learnt []parts) {
	t.Helper()
	missed, learnt = plainLearner.learn(list, want, taps, rate)
	checkLearn(t, list, want, taps, rate, missed, learnt)
	return missed, learnt
}

func checkNoLearn(t *testing.T, list, want []impl.Sample, taps int) {
	t.Helper()
	for _, rate := range []float32{0, 0.5, float32(noNumber)} {
		if e, learnt, ok := impl.Learn(list, want, taps, rate); ok || len(e) != 0 || len(learnt) != 0 {
			t.Errorf("%d and %d samples, %d taps: %v, %v and %t", len(list), len(want), taps, e, learnt, ok)
		}
	}
}

// P14: what is learnt, worked out by hand.
func TestKnownLearn(t *testing.T) {
	for _, c := range []struct {
		list, want     []parts
		taps           int
		rate           float64
		missed, learnt []parts
	}{
		{nil, nil, 1, 1, nil, []parts{{}}},
		{nil, nil, 3, noNumber, nil, []parts{{}, {}, {}}},
		{[]parts{{1, 0}, {1, 0}}, []parts{{8, 0}, {8, 0}}, 1, 0.5, []parts{{8, 0}, {4, 0}}, []parts{{6, 0}}},
		{[]parts{{1, 0}, {2, 0}, {3, 0}}, []parts{{10, 0}, {21, 0}, {40, 0}}, 2, 1, []parts{{10, 0}, {1, 0}, {2, 0}}, []parts{{18, 0}, {5, 0}}},
		{[]parts{{0, 1}, {0, 1}}, []parts{{1, 0}, {3, 1}}, 1, 1, []parts{{1, 0}, {2, 1}}, []parts{{1, -3}}},
		// The latest sample stands in front, the last one goes.
		{
			[]parts{{1, 10}, {2, 20}, {3, 30}, {4, 40}}, []parts{{}, {}, {}, {1, 0}}, 3, 1,
			[]parts{{}, {}, {}, {1, 0}}, []parts{{4, -40}, {3, -30}, {2, -20}},
		},
		{
			[]parts{{1, 10}, {2, 20}}, []parts{{}, {0, 2}}, 8, 0.5,
			[]parts{{}, {0, 2}}, []parts{{20, 2}, {10, 1}, {}, {}, {}, {}, {}, {}},
		},
		// y is +0, as sums begin with it, also where each product is -0.
		{[]parts{{-1, 0}}, []parts{{minus0, minus0}}, 1, 1, []parts{{minus0, minus0}}, []parts{{}}},
		{[]parts{{-1, -1}}, []parts{{minus0, minus0}}, 2, 1, []parts{{minus0, minus0}}, []parts{{}, {}}},
		{[]parts{{1, 0}}, []parts{{0, minus0}}, 1, 1, []parts{{0, minus0}}, []parts{{}}},
		// An Im of 0, with both signs.
		{[]parts{{1, 0}, {1, minus0}}, []parts{{2, 0}, {2, minus0}}, 1, 1, []parts{{2, 0}, {0, minus0}}, []parts{{2, 0}}},
		{[]parts{{2, minus0}}, []parts{{-3, minus0}}, 1, 1, []parts{{-3, minus0}}, []parts{{-6, 0}}},
		// Rates: nothing is learnt, the other way is learnt, all is lost.
		{[]parts{{1, 2}, {3, 4}}, []parts{{5, 6}, {7, 8}}, 2, 0, []parts{{5, 6}, {7, 8}}, []parts{{}, {}}},
		{[]parts{{1, 2}, {3, 4}}, []parts{{5, 6}, {7, 8}}, 2, minus0, []parts{{5, 6}, {7, 8}}, []parts{{}, {}}},
		{[]parts{{1, 0}, {1, 0}}, []parts{{1, 0}, {1, 0}}, 1, -1, []parts{{1, 0}, {2, 0}}, []parts{{-3, 0}}},
		{[]parts{{1, 0}, {1, 0}}, []parts{{1, 0}, {1, 0}}, 1, endless, []parts{{1, 0}, {noNumber, noNumber}}, []parts{{noNumber, noNumber}}},
		{[]parts{{1, 0}}, []parts{{1, 1}}, 1, endless, []parts{{1, 1}}, []parts{{endless, endless}}},
		{[]parts{{1, 0}}, []parts{{1, 1}}, 1, -endless, []parts{{1, 1}}, []parts{{-endless, -endless}}},
		{[]parts{{1, 0}}, []parts{{1, 1}}, 2, noNumber, []parts{{1, 1}}, []parts{{noNumber, noNumber}, {noNumber, noNumber}}},
		// Taps of 0 play their part too: 0 times an infinite one is none.
		{[]parts{{endless, 1}}, []parts{{1, 1}}, 1, 1, []parts{{noNumber, noNumber}}, []parts{{noNumber, noNumber}}},
		{[]parts{{0, 0}}, []parts{{endless, 1}}, 1, 0, []parts{{endless, 1}}, []parts{{noNumber, noNumber}}},
	} {
		checkLearn(t, c.list, c.want, c.taps, c.rate, c.missed, c.learnt)
		missed, learnt := plainLearner.learn(c.list, c.want, c.taps, c.rate)
		if !sameSamples(samplesFrom(missed), c.missed) || !sameSamples(samplesFrom(learnt), c.learnt) {
			t.Errorf("the second telling of %v is wrong: %x and %x", c, missed, learnt)
		}
	}
}

// P14: taps begin with nothing: what is missed first is what is wanted.
func TestTapsBeginWithNothing(t *testing.T) {
	r := drawn(1410)
	for taps := 1; taps <= 8; taps++ {
		for range 50 {
			list, want := drawList(&r, 1, drawNear), drawList(&r, 1, drawNear)
			missed, learnt := checkLearnAsSecond(t, list, want, taps, 1)
			got := sampleProduct(want[0], list[0].turned())
			if !missed[0].same(want[0]) || learnt[0] != got || slices.ContainsFunc(learnt[1:], func(tap parts) bool { return tap != parts{} }) {
				t.Errorf("%x, %x: %x and %x", list, want, missed, learnt)
			}
		}
	}
}

// drawSmall is a single of at most 1, so that taps stay near what they learn.
func drawSmall(r *drawn) float64 { return single.turnedInto(float64(r.below(1<<22)-1<<21) / (1 << 21)) }

// P14: many drawn lists, with every number of taps, which other orders and
// roundings would tell otherwise.
func TestDrawnLearn(t *testing.T) {
	others := []secondLearner{{adding: single, backwards: true}, {adding: single, rateFirst: true}, {adding: double}}
	otherwise := make([]int, len(others))
	r := drawn(1411)
	for taps := 1; taps <= 8; taps++ {
		for range 30 {
			n := 2 + r.below(30)
			list, want, rate := drawList(&r, n, drawSmall), drawList(&r, n, drawSmall), drawSmall(&r)/4
			_, learnt := checkLearnAsSecond(t, list, want, taps, rate)
			for i, how := range others {
				if _, other := how.learn(list, want, taps, rate); !slices.Equal(other, learnt) {
					otherwise[i]++
				}
			}
			checkLearnAsSecond(t, drawList(&r, n, drawSingle), drawList(&r, n, drawSingle), taps, drawSingle(&r))
		}
	}
	if slices.Min(otherwise) < 50 {
		t.Errorf("only %d would be told otherwise", otherwise)
	}
}

// P14: hard numbers in each place, as rates too.
func TestHardLearn(t *testing.T) {
	eachPair(hardSingles(), func(a parts) {
		for _, rate := range hardSingles() {
			list, want := []parts{a, {1, 2}, {a.im, minus0}}, []parts{{3, a.re}, a, {0.5, 0}}
			checkLearnAsSecond(t, list, want, 2, rate)
		}
	})
}

// P14: an echo is learnt: less and less of it is missed, and the taps are it.
func TestEchoIsLearnt(t *testing.T) {
	echo := []parts{{0.5, 0.25}, {-0.25, 0.125}, {0, -0.5}}
	r := drawn(1412)
	var list, want []parts
	for i := range 200 {
		list = append(list, parts{float64(2*r.below(2) - 1), float64(2*r.below(2) - 1)})
		var heard parts
		for k, part := range echo[:min(i+1, 3)] {
			heard = double.partSum(heard, double.partProduct(part, list[i-k]))
		}
		want = append(want, heard)
	}
	missed, taps := checkLearnAsSecond(t, list, want, 3, 0.125)
	for k, tap := range taps {
		off := double.partDifference(tap, echo[k])
		if off.re*off.re+off.im*off.im > 1e-8 {
			t.Errorf("tap %d is %v, not %v", k, tap, echo[k])
		}
	}
	if last := missed[199]; last.re*last.re+last.im*last.im > 1e-8 {
		t.Errorf("%v is still missed", last)
	}
}

// P14, P21: 1 to 8 taps.
func TestLearnTaps(t *testing.T) {
	list := slices.Repeat([]parts{{1, 1}}, 12)
	for taps := 1; taps <= 8; taps++ {
		checkLearnAsSecond(t, list, list, taps, 0.0625)
		checkLearnAsSecond(t, nil, nil, taps, 0.0625)
	}
	for _, taps := range append([]int{-1, -2, -8, 0, 9, 10, 16, 200}, farNumbers...) {
		checkNoLearn(t, nil, nil, taps)
		checkNoLearn(t, samplesFrom(list), samplesFrom(list), taps)
		checkNoLearn(t, samplesFrom(list), nil, taps)
	}
}

// P14, P21: none to MaxSamples, as long as one another.
func TestLearnSizes(t *testing.T) {
	of := func(n int) []parts { return slices.Repeat([]parts{{0.5, -1}}, n) }
	sizes := []int{0, 1, 2, 7, 8, 9, 199, 200, 201, 202, 1000}
	for _, n := range sizes {
		for _, m := range sizes {
			if n == m && n <= 200 {
				checkLearnAsSecond(t, of(n), of(m), 8, 0.03125)
				checkLearnAsSecond(t, of(n), of(m), 1, 0.03125)
			} else {
				checkNoLearn(t, samplesFrom(of(n)), samplesFrom(of(m)), 1)
				checkNoLearn(t, samplesFrom(of(n)), samplesFrom(of(m)), 8)
				checkNoLearn(t, samplesFrom(of(n)), samplesFrom(of(m)), 9)
			}
		}
	}
}
