package tests

import (
	"fmt"
	"slices"
	"testing"

	"loop.example/g00052/impl"
)

func secondAir(burst []parts, gain parts, noise []parts) []parts {
	var air []parts
	for i, a := range burst {
		air = append(air, single.partSum(sampleProduct(a, gain), noise[i]))
	}
	return air
}

func checkAir(t *testing.T, burst []parts, gain parts, noise []parts, want []parts) {
	t.Helper()
	got, ok := impl.Air15(samplesFrom(burst), gain.sample(), samplesFrom(noise))
	if !ok || !sameSamples(got, want) {
		t.Errorf("Air15 of %s, %x and %s: %x and %t, not %s", inShort(burst), gain, inShort(noise), got[:min(3, len(got))], ok, inShort(want))
	}
}

// inShort tells how many samples there are, and the first few.
func inShort(list []parts) string {
	return fmt.Sprintf("%d samples %x", len(list), list[:min(3, len(list))])
}

// P15: known samples on the air, one by one and all of a gain at once.
func TestKnownAir(t *testing.T) {
	for _, c := range []struct{ sample, gain, noise, want parts }{
		{parts{1, -1}, parts{-2, 1}, parts{0, 0}, parts{-1, 3}},
		{parts{1, -1}, parts{-2, 1}, parts{0.5, -0.25}, parts{-0.5, 2.75}},
		{parts{3, 4}, parts{1, 0}, parts{10, 20}, parts{13, 24}},
		{parts{3, 4}, parts{0, 1}, parts{10, 20}, parts{6, 23}},
		{parts{3, 4}, parts{-1, 0}, parts{3, 4}, parts{0, 0}},
		{parts{3, 4}, parts{0, 0}, parts{10, 20}, parts{10, 20}},
		// 0 and -0: what the product makes of them stays only beside its like.
		{parts{3, 4}, parts{0, 0}, parts{minus0, minus0}, parts{0, 0}},
		{parts{-3, 4}, parts{0, 0}, parts{minus0, minus0}, parts{minus0, 0}},
		{parts{-3, -4}, parts{0, 0}, parts{minus0, minus0}, parts{0, minus0}},
		{parts{-3, -4}, parts{0, 0}, parts{minus0, 0}, parts{0, 0}},
		{parts{-1, 0}, parts{0, 1}, parts{minus0, 0}, parts{minus0, -1}},
		{parts{-1, 0}, parts{0, 1}, parts{0, 1}, parts{0, 0}},
		{parts{endless, 1}, parts{1, 1}, parts{0, 0}, parts{endless, endless}},
		{parts{endless, 1}, parts{1, 1}, parts{-endless, 5}, parts{noNumber, endless}},
		{parts{endless, 1}, parts{1, 0}, parts{7, 7}, parts{endless, noNumber}},
		{parts{endless, 1}, parts{0, 0}, parts{7, 7}, parts{noNumber, noNumber}},
		{parts{1, 1}, parts{endless, 0}, parts{7, 7}, parts{endless, endless}},
		{parts{1, 0}, parts{endless, 0}, parts{7, 7}, parts{endless, noNumber}},
		{parts{1, 1}, parts{2, 0}, parts{-endless, noNumber}, parts{-endless, noNumber}},
		{parts{noNumber, 1}, parts{2, 3}, parts{0, 0}, parts{noNumber, noNumber}},
		{parts{1, 1}, parts{noNumber, 0}, parts{0, 0}, parts{noNumber, noNumber}},
		// The product is rounded ahead of the sum: 2^24 + 1 to 2^24, 2^24 + 3
		// to 2^24 + 4, and what is too great is infinite.
		{parts{16777216, 0}, parts{1, 0}, parts{1, 0}, parts{16777216, 0}},
		{parts{4097, 0}, parts{4097, 0}, parts{-16785408, 0}, parts{0, 0}},
		{parts{4097, 0}, parts{0, 4097}, parts{1, -16785408}, parts{1, 0}},
		{parts{4099, 0}, parts{4097, 0}, parts{-16793604, 0}, parts{0, 0}},
		{parts{0x1p100, 0}, parts{0x1p28, 0}, parts{-0x1p127, 0}, parts{endless, 0}},
		{parts{0x1p100, 0}, parts{0x1p27, 0}, parts{0x1p127, 0}, parts{endless, 0}},
		{parts{0x1p100, 0}, parts{0x1p27, 0}, parts{-0x1p127, 0}, parts{0, 0}},
		{parts{0x1p-100, 0}, parts{0x1p-50, 0}, parts{0x1p-149, 0}, parts{0x1p-149, 0}},
		{parts{0x1.8p-100, 0}, parts{0x1p-50, 0}, parts{0x1p-149, 0}, parts{0x1p-148, 0}},
		// Its products are rounded in double precision.
		{parts{0x1.001p0, 1}, parts{0x1.001p0, 0x1.002p0}, parts{0, 0}, parts{0x1p-24, 0x1.002p1}},
	} {
		checkAir(t, []parts{c.sample}, c.gain, []parts{c.noise}, []parts{c.want})
		checkAir(t, []parts{{1, 1}, c.sample}, c.gain, []parts{{2, 2}, c.noise}, []parts{secondAir([]parts{{1, 1}}, c.gain, []parts{{2, 2}})[0], c.want})
		if told := secondAir([]parts{c.sample}, c.gain, []parts{c.noise}); !told[0].same(c.want) {
			t.Errorf("the second telling of %x is wrong: %x", c, told)
		}
	}
}

// otherAirs are roundings that the chapter does not ask for: none between the
// product and the sum, and products in single precision.
func otherAirs(a, gain, noise parts) []parts {
	return []parts{
		double.partSum(double.partProduct(a, gain), noise).in(single),
		single.partSum(single.partProduct(a, gain), noise),
	}
}

// P15: many drawn samples, among them those that other roundings would tell
// otherwise.
func TestDrawnAir(t *testing.T) {
	r := drawn(1501)
	otherwise := make([]int, 2)
	for n := range 201 {
		for _, draw := range []func(r *drawn) float64{drawNear, drawSingle} {
			burst, gain, noise := drawList(&r, n, draw), drawParts(&r, draw), drawList(&r, n, draw)
			want := secondAir(burst, gain, noise)
			checkAir(t, burst, gain, noise, want)
			for i, a := range burst {
				for how, other := range otherAirs(a, gain, noise[i]) {
					if !other.same(want[i]) {
						otherwise[how]++
					}
				}
			}
		}
	}
	if slices.Min(otherwise) < 1000 {
		t.Errorf("only %d drawn ones would be told otherwise", otherwise)
	}
}

// P15: hard numbers as samples, gains and noise.
func TestHardAir(t *testing.T) {
	var hard []parts
	eachPair(hardSingles(), func(a parts) { hard = append(hard, a) })
	for i, gain := range hard {
		burst, noise := hard[:128], hard[128:]
		if i%2 == 1 {
			burst, noise = noise, slices.Concat(hard[i/2:128], hard[:i/2])
		}
		checkAir(t, burst, gain, noise, secondAir(burst, gain, noise))
	}
}

// P15, P21: none to MaxSamples, as many of noise.
func TestAirSizes(t *testing.T) {
	of := func(n int) []parts { return slices.Repeat([]parts{{0.5, -1}, {3, 2}}, n)[:n] }
	sizes := []int{0, 1, 2, 26, 27, 186, 199, 200, 201, 202, 1000}
	gain := parts{2, -3}
	for _, n := range sizes {
		for _, m := range sizes {
			if n == m && n <= 200 {
				checkAir(t, of(n), gain, of(m), secondAir(of(n), gain, of(m)))
			} else if got, ok := impl.Air15(samplesFrom(of(n)), gain.sample(), samplesFrom(of(m))); ok || len(got) != 0 {
				t.Errorf("%d samples, %d of noise: %v and %t", n, m, got, ok)
			}
		}
		for _, m := range []int{n - 1, n + 1} {
			if m < 0 {
				continue
			}
			if got, ok := impl.Air15(samplesFrom(of(n)), impl.Sample{}, samplesFrom(of(m))); ok || len(got) != 0 {
				t.Errorf("%d samples, %d of noise: %v and %t", n, m, got, ok)
			}
		}
	}
}
