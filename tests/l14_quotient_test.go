package tests

import (
	"math"
	"math/big"
	"testing"

	"loop.example/g00052/impl"
)

func checkQuotWide(t *testing.T, a, b, want parts, wantOk bool) {
	t.Helper()
	got, ok := impl.QuotWide(a.wide(), b.wide())
	if ok != wantOk || !partsOfWide(got).same(want) {
		t.Errorf("QuotWide(%x, %x): %x and %t, not %x and %t", a, b, got, ok, want, wantOk)
	}
}

func checkQuotSample(t *testing.T, a, b, want parts, wantOk bool) {
	t.Helper()
	got, ok := impl.QuotSample(a.sample(), b.sample())
	if ok != wantOk || !partsOf(got).same(want) {
		t.Errorf("QuotSample(%x, %x): %x and %t, not %x and %t", a, b, got, ok, want, wantOk)
	}
	wide, _ := impl.QuotWide(impl.Widen(a.sample()), impl.Widen(b.sample()))
	if by := impl.Narrow(wide); !partsOf(by).same(want) {
		t.Errorf("Narrow of QuotWide of %x and %x, widened: %x, not %x", a, b, by, want)
	}
}

func checkBothQuotients(t *testing.T, a, b parts) {
	t.Helper()
	want, ok := double.partQuotient(a, b)
	checkQuotWide(t, a, b, want, ok)
	narrow, ok := sampleQuotient(a.in(single), b.in(single))
	checkQuotSample(t, a.in(single), b.in(single), narrow, ok)
}

// plainQuotients are the same in both precisions, worked out by hand.
func plainQuotients() [][3]parts {
	return [][3]parts{
		{{5, 5}, {2, 1}, {3, 1}},
		{{5, 5}, {1, 2}, {3, -1}},
		{{5, 5}, {-2, 1}, {-1, -3}},
		{{5, 5}, {1, -2}, {-1, 3}},
		{{1, 2}, {4, 0}, {0.25, 0.5}},
		{{1, 2}, {-4, 0}, {-0.25, -0.5}},
		{{1, 2}, {0, 4}, {0.5, -0.25}},
		{{1, 2}, {0, -4}, {-0.5, 0.25}},
		// Where both sizes are alike, the other way would tell the other 0.
		{{1, 1}, {1, -1}, {0, 1}},
		{{1, 1}, {-1, 1}, {minus0, -1}},
		{{1, -1}, {1, 1}, {0, -1}},
		{{1, -1}, {-1, -1}, {minus0, 1}},
		{{1, 1}, {1, 1}, {1, 0}},
		{{1, 1}, {-1, -1}, {-1, minus0}},
		{{-1, 1}, {1, -1}, {-1, 0}},
		{{-1, 1}, {-1, 1}, {1, minus0}},
		// b with a 0 in a part.
		{{1, 0}, {0, 4}, {0, -0.25}},
		{{1, 0}, {minus0, 4}, {0, -0.25}},
		{{1, minus0}, {minus0, 4}, {minus0, -0.25}},
		{{1, minus0}, {0, 4}, {0, -0.25}},
		{{0, 1}, {0, 4}, {0.25, 0}},
		{{0, 1}, {minus0, -4}, {-0.25, minus0}},
		{{0, 1}, {4, 0}, {0, 0.25}},
		{{minus0, 1}, {4, minus0}, {minus0, 0.25}},
		{{minus0, 1}, {4, 0}, {0, 0.25}},
		{{1, minus0}, {4, 0}, {0.25, minus0}},
		{{1, 0}, {4, minus0}, {0.25, 0}},
		{{0, 0}, {4, 0}, {0, 0}},
		{{0, 0}, {-4, 0}, {minus0, minus0}},
		{{0, 0}, {0, 4}, {0, 0}},
		{{0, 0}, {0, -4}, {minus0, 0}},
		{{minus0, minus0}, {4, 0}, {minus0, 0}},
		{{minus0, minus0}, {4, 1}, {minus0, 0}},
	}
}

// P14: known quotients in double precision.
func TestKnownQuotWide(t *testing.T) {
	const most, least = 0x1.fffffffffffffp1023, 0x1p-1074
	for _, c := range append(plainQuotients(), [][3]parts{
		{{1e300, 0}, {1e-300, 0}, {endless, 0}},
		{{-1e300, 1e300}, {0, 1e-300}, {endless, endless}},
		{{1e-300, 0}, {1e300, 0}, {0, 0}},
		{{-1e-300, 0}, {1e300, 0}, {minus0, 0}},
		{{least, 3 * least}, {2, 0}, {0, 2 * least}},
		{{least, 3 * least}, {0, -2}, {-2 * least, 0}},
		{{1, 1}, {most, most}, {0, 0}},
		{{1, 3}, {most, -most}, {minus0, 0}},
		{{most, most}, {most, most}, {noNumber, 0}},
		{{most, -most}, {most, most}, {0, noNumber}},
		{{most, most}, {1, 1}, {endless, 0}},
		{{most, 0}, {most, 0}, {1, 0}},
		{{0, most}, {0, most}, {1, 0}},
		{{most, most}, {most, 0}, {1, 1}},
		{{1, 0}, {0x1p600, 0x1p-600}, {0x1p-600, 0}},
		{{1, 0}, {0x1p-600, 0x1p600}, {0, -0x1p-600}},
		{{least, 0}, {least, 0}, {1, 0}},
		{{least, 0}, {least, least}, {0.5, -0.5}},
		{{1, 0}, {3, 0}, {0x1.5555555555555p-2, 0}},
	}...) {
		checkQuotWide(t, c[0], c[1], c[2], true)
		if told, ok := double.partQuotient(c[0], c[1]); !ok || !told.same(c[2]) {
			t.Errorf("the second telling of %x is wrong: %x", c, told)
		}
	}
}

// P14: known quotients in single precision: those of double precision, narrowed.
func TestKnownQuotSample(t *testing.T) {
	const most, least = 0x1.fffffep127, 0x1p-149
	for _, c := range append(plainQuotients(), [][3]parts{
		{{1, 0}, {3, 0}, {0x1.555556p-2, 0}},
		{{most, 0}, {0.5, 0}, {endless, 0}},
		{{most, most}, {0, -least}, {-endless, endless}},
		{{least, 3 * least}, {2, 0}, {0, 2 * least}},
		{{-least, 3 * least}, {2, 0}, {minus0, 2 * least}},
		{{least, 0}, {most, 0}, {0, 0}},
		// In single precision too great a number would stand between.
		{{most, most}, {most, most}, {1, 0}},
		{{most, -most}, {most, most}, {0, -1}},
		{{most, most}, {1, 1}, {most, 0}},
		{{least, 0}, {least, least}, {0.5, -0.5}},
		// With each rounding in single precision one part would be another:
		// 0x1.000002p1, 0x1.000002p0 and -0x1.2d2d2cp-3.
		{{5, 5}, {3, -1}, {1, 2}},
		{{10, 0}, {1, 3}, {1, -3}},
		{{1, 0}, {3, 5}, {0x1.69696ap-4, -0x1.2d2d2ep-3}},
	}...) {
		checkQuotSample(t, c[0], c[1], c[2], true)
		if told, ok := sampleQuotient(c[0], c[1]); !ok || !told.same(c[2]) {
			t.Errorf("the second telling of %x is wrong: %x", c, told)
		}
	}
}

// P14: no quotient, and nothing but +0 beside the false.
func TestNoQuotients(t *testing.T) {
	zeros := []float64{0, minus0}
	eachPair(zeros, func(b parts) {
		eachPair([]float64{0, minus0, 1, -1, 1e30, 0x1p-149}, func(a parts) {
			checkQuotWide(t, a, b, parts{}, false)
			checkQuotSample(t, a, b, parts{}, false)
		})
	})
	for _, odd := range []float64{endless, -endless, noNumber} {
		for place := range 4 {
			for _, other := range []float64{0, minus0, 1, -2, endless, noNumber} {
				all := [4]float64{other, other, other, other}
				all[place] = odd
				checkQuotWide(t, parts{all[0], all[1]}, parts{all[2], all[3]}, parts{}, false)
				checkQuotSample(t, parts{all[0], all[1]}, parts{all[2], all[3]}, parts{}, false)
			}
		}
	}
	// What is finite only in double precision is so for QuotWide.
	checkQuotWide(t, parts{1e300, 0}, parts{1e300, 0}, parts{1, 0}, true)
}

// P14: hard numbers in all four places.
func TestHardQuotients(t *testing.T) {
	eachTwoPairs(hardDoubles(), func(a, b parts) {
		want, ok := double.partQuotient(a, b)
		checkQuotWide(t, a, b, want, ok)
	})
	eachTwoPairs(hardSingles(), func(a, b parts) {
		want, ok := sampleQuotient(a, b)
		checkQuotSample(t, a, b, want, ok)
	})
}

// P14: b whose parts are of one size, or just not, with both signs.
func TestQuotientsAtTheTurn(t *testing.T) {
	otherwise := 0
	for _, size := range []float64{1, 3, 0.1, 0x1p-1074, 0x1p-1022, 0x1p-149, 1e300, 0x1p-140} {
		for _, near := range []float64{size, math.Nextafter(size, 0), math.Nextafter(size, endless)} {
			for _, b := range []parts{{size, near}, {-size, near}, {size, -near}, {-size, -near}, {near, size}, {-near, size}} {
				eachPair([]float64{0, minus0, 1, -1, 0.1, -7, size, near, -near}, func(a parts) {
					checkBothQuotients(t, a, b)
					if math.Abs(b.re) < math.Abs(b.im) || b.re == 0 {
						return
					}
					// i a by i b is the same in truth, and goes by the other way.
					want, _ := double.partQuotient(a, b)
					other, _ := double.partQuotient(parts{-a.im, a.re}, parts{-b.im, b.re})
					if !want.same(other) {
						otherwise++
					}
				})
			}
		}
	}
	if otherwise < 100 {
		t.Errorf("only %d would be told otherwise by the other way", otherwise)
	}
}

// joinedQuotient leaves each product as it is ahead of its sum.
func joinedQuotient(a, b parts) parts {
	if math.Abs(b.re) >= math.Abs(b.im) {
		r := b.im / b.re
		d := math.FMA(r, b.im, b.re)
		return parts{math.FMA(a.im, r, a.re) / d, math.FMA(-a.re, r, a.im) / d}
	}
	r := b.re / b.im
	d := math.FMA(r, b.re, b.im)
	return parts{math.FMA(a.re, r, a.im) / d, math.FMA(a.im, r, -a.re) / d}
}

// P14: many drawn quotients, among them those that other roundings would tell
// otherwise.
func TestDrawnQuotients(t *testing.T) {
	r := drawn(1405)
	joined, inSingles := 0, 0
	for range 20000 {
		a, b := drawParts(&r, drawDouble), drawParts(&r, drawDouble)
		want, ok := double.partQuotient(a, b)
		checkQuotWide(t, a, b, want, ok)
		if ok && !joinedQuotient(a, b).same(want) {
			joined++
		}
		a, b = drawParts(&r, drawSingle), drawParts(&r, drawSingle)
		want, ok = sampleQuotient(a, b)
		checkQuotSample(t, a, b, want, ok)
		if other, _ := single.partQuotient(a, b); ok && !other.same(want) {
			inSingles++
		}
	}
	if joined < 1000 || inSingles < 1000 {
		t.Errorf("only %d and %d drawn ones would be told otherwise", joined, inSingles)
	}
}

// dividesExactly tells whether nothing is rounded on the way to a quotient.
func dividesExactly(a, b parts) bool {
	exact := true
	var watched precision = func(x *big.Float) float64 {
		f, off := x.Float64()
		exact = exact && off == big.Exact && x.Acc() == big.Exact
		return f
	}
	_, ok := watched.partQuotient(a, b)
	return ok && exact
}

// P14: what was multiplied is divided again, where nothing is rounded.
func TestMultipliedAndDivided(t *testing.T) {
	var few []float64
	for n := range 13 {
		few = append(few, float64(n-6))
	}
	came := 0
	eachTwoPairs(few, func(a, b parts) {
		product := impl.MulSample(a.sample(), b.sample())
		if !dividesExactly(partsOf(product), b) {
			return
		}
		came++
		if got, ok := impl.QuotSample(product, b.sample()); !ok || !impl.SameSample(got, a.sample()) {
			t.Errorf("%v times %v, divided again: %v and %t", a, b, got, ok)
		}
		if got, ok := impl.QuotWide(impl.MulWide(a.wide(), b.wide()), b.wide()); !ok || got != a.wide() {
			t.Errorf("%v times %v, divided again in double precision: %v and %t", a, b, got, ok)
		}
	})
	if came < 10000 {
		t.Errorf("only %d are not rounded", came)
	}
}
