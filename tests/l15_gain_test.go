package tests

import (
	"slices"
	"testing"

	"loop.example/g00052/impl"
)

// secondGain is told of the samples in the middle; where others are an odd
// number, one fewer of them stands ahead.
func secondGain(burst []parts) parts {
	ahead := 0
	for others := len(burst) - 26; others >= 2*(ahead+1); {
		ahead++
	}
	match := secondMatch(burst[ahead:ahead+26], trainParts())
	return parts{double.quotient(match.re, 52), double.quotient(match.im, 52)}
}

func checkGain(t *testing.T, burst []parts, want parts) {
	t.Helper()
	if got, ok := impl.Gain15(samplesFrom(burst)); !ok || !partsOfWide(got).same(want) {
		t.Errorf("Gain15 of %s: %x and %t, not %x", inShort(burst), got, ok, want)
	}
}

// around puts samples in the middle of a training: so many ahead of it, the
// rest behind it.
func around(train []parts, ahead int, others []parts) []parts {
	return slices.Concat(others[:ahead], train, others[ahead:])
}

func gained(list []parts, gain parts) []parts {
	return secondAir(list, gain, make([]parts, len(list)))
}

// P15: a training that comes over a gain tells it, wherever it stands.
func TestKnownGains(t *testing.T) {
	strange := slices.Repeat([]parts{{4321, -1234}}, 174)
	for _, gain := range []parts{
		{1, 0}, {0, 1}, {-1, 0}, {0, -1}, {-2, 1}, {8, -8}, {0.125, 3}, {0x1p-149, 0}, {0x1p-148, -0x1p-149},
		{0x1p126, -0x1p125}, {0, 0},
	} {
		for n := 1; n <= 174; n++ {
			checkGain(t, around(gained(trainParts(), gain), n/2, strange[:n]), gain)
		}
	}
	// Of an odd number the lesser half stands ahead: elsewhere it is not found.
	for n := 1; n <= 173; n += 2 {
		list := around(trainParts(), n/2+1, strange[:n])
		if got, ok := impl.Gain15(samplesFrom(list)); !ok || got == (impl.Wide{Re: 1}) {
			t.Errorf("%d others, the greater half ahead: %v and %t", n, got, ok)
		}
		checkGain(t, list, secondGain(list))
	}
}

// P15: one sample of the training alone: both parts of what it tells are by 52.
func TestGainOfOneSample(t *testing.T) {
	for place := range 26 {
		sign := trainParts()[place].re
		for _, c := range []struct{ sample, want parts }{
			{parts{52, 0}, parts{1, -1}},
			{parts{0, 52}, parts{1, 1}},
			{parts{26, 26}, parts{1, 0}},
			{parts{1, 0}, parts{0x1.3b13b13b13b14p-6, -0x1.3b13b13b13b14p-6}},
			{parts{0, 7}, parts{0x1.13b13b13b13b1p-3, 0x1.13b13b13b13b1p-3}},
			{parts{0x1p-149, 0}, parts{0x1.3b13b13b13b14p-155, -0x1.3b13b13b13b14p-155}},
			{parts{0x1.fffffep127, 0}, parts{0x1.3b13bp122, -0x1.3b13bp122}},
			{parts{endless, 1}, parts{endless, -endless}},
			{parts{1, -endless}, parts{-endless, -endless}},
			{parts{endless, endless}, parts{endless, noNumber}},
			{parts{endless, -endless}, parts{noNumber, -endless}},
			{parts{noNumber, 0}, parts{noNumber, noNumber}},
			{parts{0, noNumber}, parts{noNumber, noNumber}},
		} {
			train := make([]parts, 26)
			train[place] = parts{c.sample.re * sign, c.sample.im * sign}
			burst := around(train, 1, []parts{{5, 5}, {6, 6}, {7, 7}})
			checkGain(t, burst, c.want)
			if told := secondGain(burst); !told.same(c.want) {
				t.Errorf("the second telling of %x is wrong: %x", c, told)
			}
		}
	}
}

// P15: a 0 that is told is +0, as sums begin with it.
func TestGainOfNothing(t *testing.T) {
	for _, sample := range []parts{{0, 0}, {minus0, minus0}, {0, minus0}, {minus0, 0}} {
		for _, n := range []int{27, 28, 200} {
			checkGain(t, slices.Repeat([]parts{sample}, n), parts{0, 0})
		}
	}
	cancelled := slices.Concat(gained(trainParts()[:13], parts{3, 1}), gained(trainParts()[13:], parts{-3, -1}))
	checkGain(t, around(cancelled, 0, []parts{{1, 1}}), parts{0, 0})
}

// P15: what is not of the training plays no part.
func TestGainIsOfTheTraining(t *testing.T) {
	for _, n := range []int{27, 28, 29, 60, 199, 200} {
		list := slices.Repeat([]parts{{1, 2}}, n)
		want := secondGain(list)
		from := (n - 26) / 2
		for place := range list {
			for _, strange := range []parts{{7, -9}, {endless, 0}, {0, noNumber}} {
				other := slices.Clone(list)
				other[place] = strange
				told := secondGain(other)
				if of := place >= from && place < from+26; told.same(want) == of {
					t.Fatalf("the second telling is wrong: place %d of %d", place, n)
				}
				checkGain(t, other, told)
			}
		}
	}
}

// otherGains are roundings that the chapter does not ask for: a product by what
// is near a 52nd, each sample divided ahead of the sum, sums in single
// precision, and a quotient in single precision.
func otherGains(train []parts) []parts {
	match := secondMatch(train, trainParts())
	var ahead, narrow parts
	for i, a := range train {
		one := double.partProduct(a, trainParts()[i].turned())
		ahead = double.partSum(ahead, parts{double.quotient(one.re, 52), double.quotient(one.im, 52)})
		narrow = single.partSum(narrow, one)
	}
	return []parts{
		{double.product(match.re, 1.0/52), double.product(match.im, 1.0/52)},
		ahead,
		{double.quotient(narrow.re, 52), double.quotient(narrow.im, 52)},
		parts{double.quotient(match.re, 52), double.quotient(match.im, 52)}.in(single),
	}
}

// P15: many drawn bursts, which other roundings would tell otherwise.
func TestDrawnGains(t *testing.T) {
	r := drawn(1502)
	otherwise := make([]int, 4)
	for n := 27; n <= 200; n++ {
		for _, draw := range []func(r *drawn) float64{drawNear, drawSmall, drawSingle} {
			burst := drawList(&r, n, draw)
			want := secondGain(burst)
			checkGain(t, burst, want)
			from := (n - 26) / 2
			for how, other := range otherGains(burst[from : from+26]) {
				if !other.same(want) {
					otherwise[how]++
				}
			}
		}
	}
	if slices.Min(otherwise) < 100 {
		t.Errorf("only %d would be told otherwise", otherwise)
	}
}

// P15, P21: MaxTrain + 1 to MaxSamples.
func TestGainSizes(t *testing.T) {
	for n := range 500 {
		burst := slices.Repeat([]parts{{1, 3}, {2, -1}}, n)[:n]
		if n >= 27 && n <= 200 {
			checkGain(t, burst, secondGain(burst))
			continue
		}
		if got, ok := impl.Gain15(samplesFrom(burst)); ok || !partsOfWide(got).same(parts{}) {
			t.Errorf("%d samples: %v and %t", n, got, ok)
		}
		if got, ok := impl.Bits15(samplesFrom(burst)); ok || len(got) != 0 {
			t.Errorf("%d samples: %v and %t", n, got, ok)
		}
	}
	if got, ok := impl.Gain15(impl.Train()); ok || got != (impl.Wide{}) {
		t.Errorf("a training alone: %v and %t", got, ok)
	}
	if got, ok := impl.Bits15(impl.Train()); ok || len(got) != 0 {
		t.Errorf("a training alone: %v and %t", got, ok)
	}
}
