package tests

import (
	"math"
	"testing"

	"loop.example/g00052/impl"
)

// checkWidened has the float in both parts, and in each beside another one.
func checkWidened(t *testing.T, x float32, want float64) {
	t.Helper()
	for _, c := range []struct {
		a    impl.Sample
		want parts
	}{
		{impl.Sample{Re: x, Im: x}, parts{want, want}},
		{impl.Sample{Re: x, Im: 7}, parts{want, 7}},
		{impl.Sample{Re: -7, Im: x}, parts{-7, want}},
	} {
		if got := impl.Widen(c.a); !partsOfWide(got).same(c.want) {
			t.Errorf("Widen(%x): %x, not %x", c.a, got, c.want)
		}
	}
}

func checkNarrowed(t *testing.T, x float64, want float64) {
	t.Helper()
	for _, c := range []struct {
		a    impl.Wide
		want parts
	}{
		{impl.Wide{Re: x, Im: x}, parts{want, want}},
		{impl.Wide{Re: x, Im: 7}, parts{want, 7}},
		{impl.Wide{Re: -7, Im: x}, parts{-7, want}},
	} {
		if got := impl.Narrow(c.a); !partsOf(got).same(c.want) {
			t.Errorf("Narrow(%x): %x, not %x", c.a, got, c.want)
		}
	}
}

// someFractions are ends, both neighbours of each, and some between.
func someFractions() []uint32 {
	list := []uint32{0, 1, 2, 3, 0x3fffff, 0x400000, 0x400001, 0x555555, 0x2aaaaa, 0x7ffffd, 0x7ffffe, 0x7fffff}
	for bit := range 23 {
		list = append(list, 1<<bit)
	}
	return list
}

// P14: a single of every size, widened by what its bits say, and narrowed again.
func TestWidenByBits(t *testing.T) {
	for exponent := range uint32(255) {
		for _, fraction := range someFractions() {
			want := math.Ldexp(float64(fraction), -149)
			if exponent > 0 {
				want = math.Ldexp(float64(fraction+1<<23), int(exponent)-150)
			}
			x := math.Float32frombits(exponent<<23 | fraction)
			checkWidened(t, x, want)
			checkNarrowed(t, want, float64(x))
			minus := math.Float32frombits(1<<31 | exponent<<23 | fraction)
			checkWidened(t, minus, math.Copysign(want, -1))
			checkNarrowed(t, math.Copysign(want, -1), float64(minus))
		}
	}
	for sign := range uint32(2) {
		checkWidened(t, math.Float32frombits(sign<<31|0x7f800000), math.Inf(1-2*int(sign)))
		for _, fraction := range someFractions()[1:] {
			checkWidened(t, math.Float32frombits(sign<<31|0x7f800000|fraction), noNumber)
		}
	}
}

// P14: what is narrowed, with the ends of both precisions.
func TestKnownNarrow(t *testing.T) {
	for x, want := range map[float64]float64{
		0:                       0,
		0.1:                     0x1.99999ap-4,
		1:                       1,
		16777216:                16777216,
		16777217:                16777216,
		16777218:                16777218,
		16777219:                16777220,
		0x1.000001p0:            1,
		0x1.0000010000001p0:     0x1.000002p0,
		0x1.000002p0:            0x1.000002p0,
		0x1.000002fffffffp0:     0x1.000002p0,
		0x1.000003p0:            0x1.000004p0,
		0x1.fffffep127:          0x1.fffffep127,
		0x1.fffffefffffffp127:   0x1.fffffep127,
		0x1.ffffffp127:          endless,
		0x1.fffffffffffffp127:   endless,
		0x1p128:                 endless,
		1e300:                   endless,
		0x1.fffffffffffffp1023:  endless,
		endless:                 endless,
		0x1p-126:                0x1p-126,
		0x1.ffffffp-127:         0x1p-126,
		0x1.fffffep-127:         0x1p-126,
		0x1.fffffdfffffffp-127:  0x1.fffffcp-127,
		0x1.fffffdp-127:         0x1.fffffcp-127,
		0x1.fffffcp-127:         0x1.fffffcp-127,
		0x1p-149:                0x1p-149,
		0x1.8p-149:              0x1p-148,
		0x1.7ffffffffffffp-149:  0x1p-149,
		0x1.4p-148:              0x1p-148,
		0x1.4000000000001p-148:  0x1.8p-148,
		0x1.cp-148:              0x1p-147,
		0x1.bffffffffffffp-148:  0x1.8p-148,
		0x1p-150:                0,
		0x1.0000000000001p-150:  0x1p-149,
		0x1.fffffffffffffp-150:  0x1p-149,
		0x1.fffffffffffffp-151:  0,
		0x1p-1022:               0,
		0x1p-1074:               0,
		0x0.fffffffffffffp-1022: 0,
		0x1.5555555555555p-2:    0x1.555556p-2,
		0x1.921fb54442d18p1:     0x1.921fb6p1,
		0x1.23456789abcdep60:    0x1.234568p60,
		0x1.2345670000000p60:    0x1.234568p60,
		0x1.2345650000000p60:    0x1.234564p60,
		0x1.2345650000001p60:    0x1.234566p60,
		0x1.2345669999999p100:   0x1.234566p100,
		0x1.0000008p0:           1,
		0x1.000001p3:            8,
	} {
		checkNarrowed(t, x, want)
		checkNarrowed(t, -x, -want)
		if got := single.turnedInto(x); !sameFloat(got, want) {
			t.Errorf("the second telling of %x is wrong: %x", x, got)
		}
	}
	checkNarrowed(t, minus0, minus0)
	checkNarrowed(t, -0x1p-150, minus0)
	checkNarrowed(t, -0x1p-1074, minus0)
	for _, bits := range []uint64{0x7ff8000000000000, 0x7ff0000000000001, 0x7ff0000010000000, 0xfff0000000000001, 0xffffffffffffffff} {
		checkNarrowed(t, math.Float64frombits(bits), noNumber)
	}
}

// P14: between each two neighbours that are singles, the even one is taken at
// the middle, the nearer one beside it.
func TestNarrowBetween(t *testing.T) {
	for exponent := range uint32(255) {
		for _, fraction := range someFractions() {
			bits := exponent<<23 | fraction
			if bits == 0x7f7fffff {
				continue
			}
			low := float64(math.Float32frombits(bits))
			high := float64(math.Float32frombits(bits + 1))
			middle := (low + high) / 2
			even := low
			if bits%2 == 1 {
				even = high
			}
			checkNarrowed(t, middle, even)
			checkNarrowed(t, -middle, -even)
			checkNarrowed(t, math.Nextafter(middle, low), low)
			checkNarrowed(t, -math.Nextafter(middle, high), -high)
		}
	}
}

// P14: Narrow of Widen is the sample, and Widen of it the same again.
func TestSamplesComeBack(t *testing.T) {
	r := drawn(1401)
	come := func(a parts) {
		if got := impl.Narrow(impl.Widen(a.sample())); !partsOf(got).same(a) {
			t.Errorf("%x comes back as %x", a, got)
		}
	}
	eachPair(hardSingles(), come)
	for range 20000 {
		come(drawParts(&r, drawSingle))
	}
	for range 20000 {
		a := drawParts(&r, drawDouble)
		if got := impl.Narrow(a.wide()); !partsOf(got).same(a.in(single)) {
			t.Errorf("Narrow(%x): %x, not %x", a, got, a.in(single))
		}
	}
	eachPair(hardDoubles(), func(a parts) {
		if got := impl.Narrow(a.wide()); !partsOf(got).same(a.in(single)) {
			t.Errorf("Narrow(%x): %x, not %x", a, got, a.in(single))
		}
	})
}

func checkAdded(t *testing.T, a, b parts) {
	t.Helper()
	if got, want := impl.AddSample(a.sample(), b.sample()), single.partSum(a, b); !partsOf(got).same(want) {
		t.Errorf("AddSample(%x, %x): %x, not %x", a, b, got, want)
	}
	if got, want := impl.SubSample(a.sample(), b.sample()), single.partDifference(a, b); !partsOf(got).same(want) {
		t.Errorf("SubSample(%x, %x): %x, not %x", a, b, got, want)
	}
}

// P14: known sums and differences, each part by itself.
func TestKnownAdd(t *testing.T) {
	for _, c := range []struct{ a, b, sum, difference float64 }{
		{1, 2, 3, -1},
		{1.5, -0.25, 1.25, 1.75},
		{16777216, 1, 16777216, 16777215},
		{16777216, 2, 16777218, 16777214},
		{16777216, 3, 16777220, 16777213},
		{16777218, 1, 16777220, 16777216},
		{-16777216, -1, -16777216, -16777215},
		{1, 0x1p-24, 1, 0x1.fffffep-1},
		{1, 0x1.000002p-24, 0x1.000002p0, 0x1.fffffep-1},
		{0x1.99999ap-4, 0x1.99999ap-3, 0x1.333334p-2, -0x1.99999ap-4},
		{0x1.fffffep127, 0x1p102, 0x1.fffffep127, 0x1.fffffep127},
		{0x1.fffffep127, 0x1p103, endless, 0x1.fffffcp127},
		{0x1.fffffep127, 0x1.fffffep102, 0x1.fffffep127, 0x1.fffffep127},
		{0x1.fffffep127, 0x1p104, endless, 0x1.fffffcp127},
		{0x1.fffffep127, -0x1.fffffep127, 0, endless},
		{0x1p-149, 0x1p-149, 0x1p-148, 0},
		{0x1p-126, 0x1p-149, 0x1.000002p-126, 0x1.fffffcp-127},
		{0, 0, 0, 0},
		{0, minus0, 0, 0},
		{minus0, 0, 0, minus0},
		{minus0, minus0, minus0, 0},
		{5, -5, 0, 10},
		{5, 5, 10, 0},
		{-5, -5, -10, 0},
		{minus0, 5, 5, -5},
		{5, minus0, 5, 5},
		{endless, 1, endless, endless},
		{1, endless, endless, -endless},
		{endless, endless, endless, noNumber},
		{endless, -endless, noNumber, endless},
		{-endless, endless, noNumber, -endless},
		{-endless, -endless, -endless, noNumber},
		{noNumber, 1, noNumber, noNumber},
		{1, noNumber, noNumber, noNumber},
		{endless, noNumber, noNumber, noNumber},
	} {
		for _, place := range []bool{false, true} {
			at := func(x, other float64) parts {
				if place {
					return parts{other, x}
				}
				return parts{x, other}
			}
			a, b := at(c.a, 40).sample(), at(c.b, 3).sample()
			if got := impl.AddSample(a, b); !partsOf(got).same(at(c.sum, 43)) {
				t.Errorf("AddSample(%x, %x): %x", a, b, got)
			}
			if got := impl.SubSample(a, b); !partsOf(got).same(at(c.difference, 37)) {
				t.Errorf("SubSample(%x, %x): %x", a, b, got)
			}
		}
	}
}

// P14: hard numbers in each place, and many drawn.
func TestDrawnAdd(t *testing.T) {
	eachPair(hardSingles(), func(a parts) {
		checkAdded(t, a, parts{a.im, a.re})
		checkAdded(t, parts{a.re, 3}, parts{a.im, 0.1 / 4})
		checkAdded(t, parts{-0x1p-140, a.re}, parts{0x1.000002p24, a.im})
	})
	r := drawn(1402)
	for range 20000 {
		checkAdded(t, drawParts(&r, drawSingle), drawParts(&r, drawSingle))
	}
}
