package tests

import (
	"math"
	"slices"
	"testing"

	"loop.example/g00052/impl"
)

// secondBits asks each sample that is not of the training.
func secondBits(burst []parts) ([]int, bool) {
	gain := secondGain(burst)
	from := (len(burst) - 26) / 2
	var bits []int
	for i, a := range burst {
		if i >= from && i < from+26 {
			continue
		}
		sent, ok := double.partQuotient(a, gain)
		if !ok {
			return nil, false
		}
		for _, part := range []float64{sent.re, sent.im} {
			if part < 0 {
				bits = append(bits, 0)
			} else {
				bits = append(bits, 1)
			}
		}
	}
	return bits, true
}

func checkBits(t *testing.T, burst []parts, want []int) {
	t.Helper()
	if got, ok := impl.Bits15(samplesFrom(burst)); !ok || !slices.Equal(got, want) {
		t.Errorf("Bits15 of %s: %d and %t, not %d", inShort(burst), got, ok, want)
	}
}

func checkNoBits(t *testing.T, burst []parts) {
	t.Helper()
	if got, ok := impl.Bits15(samplesFrom(burst)); ok || len(got) != 0 {
		t.Errorf("Bits15 of %s: %d and %t", inShort(burst), got, ok)
	}
	if _, ok := secondBits(burst); ok {
		t.Errorf("the second telling of %s is wrong", inShort(burst))
	}
}

// P15: known samples beside a training that came over a gain.
func TestKnownBits(t *testing.T) {
	for _, c := range []struct {
		gain   parts
		others []parts
		want   string
	}{
		{parts{1, 0}, []parts{{1, -1}}, "10"},
		{parts{1, 0}, []parts{{1, -1}, {-1, 1}}, "1001"},
		{parts{1, 0}, []parts{{1, -1}, {-1, 1}, {1, 1}}, "100111"},
		{parts{1, 0}, []parts{{0.001, -0.001}, {-900, 900}}, "1001"},
		{parts{-2, 1}, []parts{{-1, 3}, {3, 1}, {1, -3}, {-3, -1}}, "10000111"},
		{parts{0, 1}, []parts{{-1, 1}, {-1, -1}, {1, 1}, {1, -1}}, "11011000"},
		{parts{-1, 0}, []parts{{-1, -1}, {1, 1}}, "1100"},
		// 0 is at least 0, and -0 is 0.
		{parts{1, 0}, []parts{{0, 0}, {minus0, minus0}, {0, minus0}, {minus0, 0}}, "11111111"},
		{parts{-1, 0}, []parts{{0, 0}, {minus0, minus0}, {0, minus0}, {minus0, 0}}, "11111111"},
		{parts{0, -1}, []parts{{0, 0}, {minus0, minus0}, {0, minus0}, {minus0, 0}}, "11111111"},
		{parts{1, 0}, []parts{{0, -1}, {minus0, 1}, {-1, 0}, {1, minus0}}, "10110111"},
		{parts{0, 1}, []parts{{0, -1}, {minus0, 1}, {-1, 0}, {1, minus0}}, "01111110"},
		// A quotient too small for a single is no 0.
		{parts{0x1p120, 0}, []parts{{-0x1p-149, 0x1p-149}, {0x1p-149, -0x1p-149}}, "0110"},
		{parts{0, 0x1p120}, []parts{{-0x1p-149, 0x1p-149}, {0x1p-149, -0x1p-149}}, "1100"},
		{parts{0x1p-149, 0}, []parts{{-0x1.fffffep127, 0x1p-149}, {0x1p-149, -0x1.fffffep127}}, "0110"},
	} {
		burst := around(gained(trainParts(), c.gain), len(c.others)/2, c.others)
		checkBits(t, burst, bitsOf(c.want))
		if told, ok := secondBits(burst); !ok || textOf(told) != c.want {
			t.Errorf("the second telling of %x is wrong: %d", c, told)
		}
	}
}

// P15: without a gain, or with a sample that is not finite, there are no bits.
func TestNoBits(t *testing.T) {
	cancelled := slices.Concat(gained(trainParts()[:13], parts{3, 1}), gained(trainParts()[13:], parts{-3, -1}))
	for n := 27; n <= 200; n++ {
		others := slices.Repeat([]parts{{1, -1}}, n-26)
		checkNoBits(t, around(make([]parts, 26), (n-26)/2, others))
		checkNoBits(t, around(slices.Repeat([]parts{{minus0, minus0}}, 26), (n-26)/2, others))
		checkNoBits(t, around(cancelled, (n-26)/2, others))
	}
	for _, n := range []int{27, 28, 29, 200} {
		right := around(trainParts(), (n-26)/2, slices.Repeat([]parts{{1, -1}}, n-26))
		checkBits(t, right, repeated("10", 2*(n-26)))
		for place := range n {
			for _, x := range []float64{endless, -endless, noNumber} {
				for _, wrong := range []parts{{x, 1}, {1, x}, {x, x}} {
					burst := slices.Clone(right)
					burst[place] = wrong
					checkNoBits(t, burst)
				}
			}
		}
	}
	// What is great and finite is taken.
	great := slices.Repeat([]parts{{0x1.fffffep127, -0x1.fffffep127}}, 4)
	checkBits(t, around(gained(trainParts(), parts{0, 0x1p127}), 2, great), bitsOf("00000000"))
}

func drawWhole(r *drawn) float64 { return float64(r.below(7) - 3) }

// P15: many drawn samples, right on the bounds among them.
func TestDrawnBits(t *testing.T) {
	r := drawn(1503)
	bounds := 0
	for n := 27; n <= 200; n++ {
		for _, draw := range []func(r *drawn) float64{drawWhole, drawSmall, drawNear, drawSingle} {
			burst := drawList(&r, n, draw)
			if want, ok := secondBits(burst); ok {
				checkBits(t, burst, want)
			} else {
				checkNoBits(t, burst)
			}
			gain := parts{float64(r.below(5) - 2), float64(r.below(5) - 2)}
			burst = around(gained(trainParts(), gain), (n-26)/2, drawList(&r, n-26, drawWhole))
			want, ok := secondBits(burst)
			if !ok {
				checkNoBits(t, burst)
				continue
			}
			checkBits(t, burst, want)
			for _, a := range burst {
				if a.re*gain.re == -a.im*gain.im {
					bounds++
				}
			}
		}
	}
	if bounds < 1000 {
		t.Errorf("only %d samples lie on a bound", bounds)
	}
}

// A noise tells what comes to the sample at a place, by parts of at most most;
// clear are all samples as they would come without noise.
type noise func(r *drawn, clear []parts, place int, most float64) parts

func atSize(re, im float64) noise {
	return func(_ *drawn, _ []parts, _ int, most float64) parts { return parts{re * most, im * most} }
}

func drawnNoise(r *drawn, _ []parts, _ int, most float64) parts {
	return parts{most * float64(r.below(2001)-1000) / 1000, most * float64(r.below(2001)-1000) / 1000}
}

func cornerNoise(r *drawn, _ []parts, _ int, most float64) parts {
	return parts{most * float64(2*r.below(2)-1), most * float64(2*r.below(2)-1)}
}

// against turns each sample of the training the one way and all others the
// other way, as far as noise can.
func against(way float64) noise {
	return func(_ *drawn, clear []parts, place int, most float64) parts {
		to := way
		if from := (len(clear) - 26) / 2; place >= from && place < from+26 {
			to = -way
		}
		return parts{math.Copysign(most, -to*clear[place].im), math.Copysign(most, to*clear[place].re)}
	}
}

// towardsNothing makes each sample as small as noise can.
func towardsNothing(_ *drawn, clear []parts, place int, most float64) parts {
	return parts{math.Copysign(most, -clear[place].re), math.Copysign(most, -clear[place].im)}
}

func checkComesBack(t *testing.T, r *drawn, bits []int, gain parts, with noise) {
	t.Helper()
	burst, _ := impl.Burst(bits)
	still, _ := impl.Air15(burst, gain.sample(), make([]impl.Sample, len(burst)))
	var clear []parts
	for _, sample := range still {
		clear = append(clear, partsOf(sample))
	}
	// A little less than an eighth, as it is rounded to single precision.
	most := math.Hypot(gain.re, gain.im) / 8 * (1 - 0x1p-22)
	var noises []impl.Sample
	for place := range clear {
		noises = append(noises, with(r, clear, place, most).sample())
	}
	air, ok := impl.Air15(burst, gain.sample(), noises)
	if back, also := impl.Bits15(air); !ok || !also || !slices.Equal(back, bits) {
		t.Errorf("%s over %v: %s", textOf(bits), gain, textOf(back))
	}
}

func drawBitList(r *drawn, n int) []int {
	bits := make([]int, n)
	for i := range bits {
		bits[i] = r.below(2)
	}
	return bits
}

// P15: bursts of every length come back over gains of size 1 to 8, turned every
// way, with noise of at most an eighth.
func TestBurstsComeBack(t *testing.T) {
	r := drawn(1504)
	sizes := []float64{1, 1.5, 2, 5.25, 8}
	for n := 2; n <= 320; n += 2 {
		for step := range 48 {
			sin, cos := math.Sincos(2 * math.Pi * float64(step) / 48)
			size := sizes[(n/2+step)%len(sizes)]
			for _, with := range []noise{
				atSize(0, 0), atSize(1, 1), atSize(-1, 1), atSize(0, -1), drawnNoise, cornerNoise,
				against(1), against(-1), towardsNothing,
			} {
				checkComesBack(t, &r, drawBitList(&r, n), parts{size * cos, size * sin}, with)
			}
		}
	}
}

// P15: all short bursts come back over gains whose parts are whole or none.
func TestShortBurstsComeBack(t *testing.T) {
	r := drawn(1505)
	for _, gain := range []parts{{1, 0}, {0, 1}, {-1, 0}, {0, -1}, {1, 1}, {-5, 6}, {8, 0}, {0, -8}} {
		for _, bits := range bitTexts(8) {
			if bits != "" && len(bits)%2 == 0 {
				checkComesBack(t, &r, bitsOf(bits), gain, atSize(0, 0))
				checkComesBack(t, &r, bitsOf(bits), gain, cornerNoise)
			}
		}
	}
}
