package tests

import (
	"math"
	"testing"

	"loop.example/g00052/impl"
)

func checkMulWide(t *testing.T, a, b, want parts) {
	t.Helper()
	if got := impl.MulWide(a.wide(), b.wide()); !partsOfWide(got).same(want) {
		t.Errorf("MulWide(%x, %x): %x, not %x", a, b, got, want)
	}
	if got := impl.MulWide(b.wide(), a.wide()); !partsOfWide(got).same(want) {
		t.Errorf("MulWide(%x, %x), exchanged: %x, not %x", b, a, got, want)
	}
}

func checkMulSample(t *testing.T, a, b, want parts) {
	t.Helper()
	if got := impl.MulSample(a.sample(), b.sample()); !partsOf(got).same(want) {
		t.Errorf("MulSample(%x, %x): %x, not %x", a, b, got, want)
	}
	if got := impl.MulSample(b.sample(), a.sample()); !partsOf(got).same(want) {
		t.Errorf("MulSample(%x, %x), exchanged: %x, not %x", b, a, got, want)
	}
	by := impl.Narrow(impl.MulWide(impl.Widen(a.sample()), impl.Widen(b.sample())))
	if !partsOf(by).same(want) {
		t.Errorf("Narrow of MulWide of %x and %x, widened: %x, not %x", a, b, by, want)
	}
}

// oddProducts have 0, -0, infinite parts and NaN in them, worked out by hand;
// they are the same in both precisions.
func oddProducts() [][3]parts {
	return [][3]parts{
		{{0, 0}, {1, 0}, {0, 0}},
		{{0, 0}, {-1, 0}, {minus0, 0}},
		{{0, 0}, {0, -1}, {0, 0}},
		{{0, 0}, {-1, -1}, {0, minus0}},
		{{minus0, 0}, {1, 0}, {minus0, 0}},
		{{minus0, minus0}, {1, 0}, {0, minus0}},
		{{minus0, minus0}, {1, 1}, {0, minus0}},
		{{0, minus0}, {1, 0}, {0, 0}},
		{{1, 0}, {1, minus0}, {1, 0}},
		{{1, minus0}, {1, minus0}, {1, minus0}},
		{{0, 1}, {0, 1}, {-1, 0}},
		{{-1, 0}, {0, 1}, {minus0, -1}},
		{{minus0, -1}, {0, 1}, {1, minus0}},
		{{1, minus0}, {0, 1}, {0, 1}},
		{{endless, 0}, {1, 0}, {endless, noNumber}},
		{{endless, 1}, {1, 1}, {endless, endless}},
		{{endless, endless}, {1, 1}, {noNumber, endless}},
		{{endless, endless}, {1, -1}, {endless, noNumber}},
		{{1, endless}, {2, 3}, {-endless, endless}},
		{{1, -endless}, {2, 3}, {endless, -endless}},
		{{0, endless}, {0, 1}, {-endless, noNumber}},
		{{0, endless}, {0, 0}, {noNumber, noNumber}},
		{{endless, 2}, {endless, 2}, {endless, endless}},
		{{endless, endless}, {endless, endless}, {noNumber, endless}},
		{{noNumber, 0}, {1, 0}, {noNumber, noNumber}},
		{{0, noNumber}, {0, 0}, {noNumber, noNumber}},
		{{1, 1}, {noNumber, 1}, {noNumber, noNumber}},
		{{endless, 1}, {1, noNumber}, {noNumber, noNumber}},
	}
}

// P14: known products in double precision.
func TestKnownMulWide(t *testing.T) {
	for _, c := range append(oddProducts(), [][3]parts{
		{{1, 2}, {3, -1}, {5, 5}},
		{{2, 0}, {0.5, 4}, {1, 8}},
		{{3, 4}, {3, -4}, {25, 0}},
		// Products that are rounded are alike, and nothing is left of them; one
		// that is not would leave what was rounded off the other.
		{{0.1, 0.1}, {0.1, 0.1}, {0, 0x1.47ae147ae147cp-6}},
		{{0.1, -0.1}, {0.1, 0.1}, {0x1.47ae147ae147cp-6, 0}},
		{{0x1.0000000000001p0, 1}, {0x1.0000000000001p0, 0x1.0000000000002p0}, {0, 0x1.0000000000002p1}},
		{{0x1p-600, 0x1p-600}, {0x1p-500, 0x1p-500}, {0, 0}},
		{{0x1p-600, -0x1p-600}, {0x1p-500, 0x1p-500}, {0, 0}},
		{{-0x1p-600, 0x1p-600}, {0x1p-500, 0x1p-500}, {minus0, 0}},
		{{0x1p-538, 0x1p-538}, {0x1p-537, -0x1p-537}, {0, 0}},
		{{0x1.8p-538, 0x1.8p-538}, {0x1p-537, -0x1p-537}, {0x1p-1073, 0}},
		{{0x1p600, 0x1p600}, {0x1p500, 0x1p500}, {noNumber, endless}},
		{{0x1p600, 0x1p600}, {0x1p500, -0x1p500}, {endless, noNumber}},
		{{0x1p1000, 1}, {0x1p24, 0x1p1000}, {endless, endless}},
		{{0x1p1023, 0x1p1023}, {1, -1}, {endless, 0}},
		{{0x1p53, 1}, {1, 1}, {0x1p53 - 1, 0x1p53}},
		{{0x1p53, 3}, {1, 1}, {0x1p53 - 3, 0x1p53 + 4}},
	}...) {
		checkMulWide(t, c[0], c[1], c[2])
		if told := double.partProduct(c[0], c[1]); !told.same(c[2]) {
			t.Errorf("the second telling of %x is wrong: %x", c, told)
		}
	}
}

// P14: known products in single precision: those of double precision, narrowed.
func TestKnownMulSample(t *testing.T) {
	for _, c := range append(oddProducts(), [][3]parts{
		{{1, 2}, {3, -1}, {5, 5}},
		{{3, 4}, {3, -4}, {25, 0}},
		// 1 + 2^-11 + 2^-24 would be rounded in single precision.
		{{0x1.001p0, 1}, {0x1.001p0, 0x1.002p0}, {0x1p-24, 0x1.002p1}},
		// 1 + 2^-24 + 2^-60 is rounded to the middle between two singles first,
		// and then to the even one.
		{{24929, 0x1p-30}, {673 * 0x1p-24, -0x1p-30}, {1, -24929 * 0x1p-30}},
		{{24929, 0x1p-20}, {673 * 0x1p-24, -0x1p-20}, {0x1.000002p0, -24929 * 0x1p-20}},
		{{0x1p100, 0x1p100}, {0x1p100, 0x1p100}, {0, endless}},
		{{0x1p100, 0x1p100}, {0x1p100, -0x1p100}, {endless, 0}},
		{{-0x1p100, 0x1p100}, {0x1p100, 0x1p100}, {-endless, 0}},
		{{0x1p-80, 0x1p-80}, {0x1p-70, -0x1p-70}, {0x1p-149, 0}},
		{{0x1p-80, 0}, {0x1p-70, 0x1p-69}, {0, 0x1p-149}},
		{{-0x1p-80, 0}, {0x1p-70, 0x1.8p-69}, {minus0, -0x1p-148}},
		{{0x1p-149, 0}, {0x1p-149, 0x1p-149}, {0, 0}},
		{{-0x1p-149, 0x1p-149}, {0x1p-149, 0}, {minus0, 0}},
		{{0x1.fffffep127, 0x1.fffffep127}, {1, 1}, {0, endless}},
		{{0x1.fffffep127, 0x1p103}, {1, 1}, {0x1.fffffcp127, endless}},
		{{0x1p24, 1}, {1, 1}, {0x1.fffffep23, 0x1p24}},
		{{0x1p24, 3}, {1, 1}, {0x1.fffffap23, 0x1.000004p24}},
	}...) {
		checkMulSample(t, c[0], c[1], c[2])
		if told := sampleProduct(c[0], c[1]); !told.same(c[2]) {
			t.Errorf("the second telling of %x is wrong: %x", c, told)
		}
	}
}

// P14: hard numbers in all four places.
func TestHardProducts(t *testing.T) {
	eachTwoPairs(hardDoubles(), func(a, b parts) { checkMulWide(t, a, b, double.partProduct(a, b)) })
	eachTwoPairs(hardSingles(), func(a, b parts) { checkMulSample(t, a, b, sampleProduct(a, b)) })
}

// joinedProduct leaves the first product of each part as it is: what is told
// where products and sums are joined into one operation.
func joinedProduct(a, b parts) parts {
	return parts{math.FMA(a.re, b.re, -double.product(a.im, b.im)), math.FMA(a.re, b.im, double.product(a.im, b.re))}
}

// P14: many drawn products, among them those that other roundings would tell
// otherwise.
func TestDrawnMulWide(t *testing.T) {
	r := drawn(1403)
	joined := 0
	for range 30000 {
		a, b := drawParts(&r, drawDouble), drawParts(&r, drawDouble)
		want := double.partProduct(a, b)
		checkMulWide(t, a, b, want)
		if !joinedProduct(a, b).same(want) {
			joined++
		}
	}
	if joined < 1000 {
		t.Errorf("only %d drawn ones would be told otherwise", joined)
	}
}

func TestDrawnMulSample(t *testing.T) {
	r := drawn(1404)
	inSingles := 0
	for range 30000 {
		a, b := drawParts(&r, drawSingle), drawParts(&r, drawSingle)
		want := sampleProduct(a, b)
		checkMulSample(t, a, b, want)
		if !single.partProduct(a, b).same(want) {
			inSingles++
		}
	}
	if inSingles < 1000 {
		t.Errorf("only %d drawn ones would be told otherwise", inSingles)
	}
}
