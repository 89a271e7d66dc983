package tests

import (
	"math"
	"math/big"
	"testing"

	"loop.example/g00052/impl"
)

var (
	minus0   = math.Copysign(0, -1)
	endless  = math.Inf(1)
	noNumber = math.NaN()
)

// A precision rounds once what was worked out exactly. It tells a float64 also
// where it rounds to single precision: each float32 is one.
type precision func(x *big.Float) float64

func toSingle(x *big.Float) float64 {
	f, _ := x.Float32()
	return float64(f)
}

func toDouble(x *big.Float) float64 {
	f, _ := x.Float64()
	return f
}

var (
	single precision = toSingle
	double precision = toDouble
)

// exactBits hold each sum, difference and product of two floats whole. A
// quotient that is cut off there lies on the same side of each float, and of
// each middle between two of them, as the whole one: its numbers have only 53
// bits each.
const exactBits = 2200

// once works out one operation and rounds it; the machine's own floats play no
// part in it, so none can be joined to another one.
func (p precision) once(do func(z, a, b *big.Float) *big.Float, a float64, b float64) (told float64) {
	if math.IsNaN(a) || math.IsNaN(b) {
		return noNumber
	}
	defer func() {
		switch fault := recover().(type) {
		case nil:
		case big.ErrNaN:
			told = noNumber
		default:
			panic(fault)
		}
	}()
	return p(do(new(big.Float).SetPrec(exactBits), big.NewFloat(a), big.NewFloat(b)))
}

func (p precision) sum(a, b float64) float64        { return p.once((*big.Float).Add, a, b) }
func (p precision) difference(a, b float64) float64 { return p.once((*big.Float).Sub, a, b) }
func (p precision) product(a, b float64) float64    { return p.once((*big.Float).Mul, a, b) }
func (p precision) quotient(a, b float64) float64   { return p.once((*big.Float).Quo, a, b) }

// turnedInto is a float in that precision.
func (p precision) turnedInto(a float64) float64 {
	if math.IsNaN(a) {
		return noNumber
	}
	return p(big.NewFloat(a))
}

// parts are a Sample or a Wide of the second telling.
type parts struct{ re, im float64 }

func (a parts) sample() impl.Sample { return impl.Sample{Re: float32(a.re), Im: float32(a.im)} }
func (a parts) wide() impl.Wide     { return impl.Wide{Re: a.re, Im: a.im} }

func partsOf(a impl.Sample) parts   { return parts{float64(a.Re), float64(a.Im)} }
func partsOfWide(a impl.Wide) parts { return parts{a.Re, a.Im} }

func (a parts) in(p precision) parts { return parts{p.turnedInto(a.re), p.turnedInto(a.im)} }

func (a parts) turned() parts { return parts{a.re, math.Copysign(a.im, -math.Copysign(1, a.im))} }

func (p precision) partSum(a, b parts) parts { return parts{p.sum(a.re, b.re), p.sum(a.im, b.im)} }

func (p precision) partDifference(a, b parts) parts {
	return parts{p.difference(a.re, b.re), p.difference(a.im, b.im)}
}

// partProduct has all its roundings in that precision.
func (p precision) partProduct(a, b parts) parts {
	return parts{
		p.difference(p.product(a.re, b.re), p.product(a.im, b.im)),
		p.sum(p.product(a.re, b.im), p.product(a.im, b.re)),
	}
}

// partQuotient has all its roundings in that precision.
func (p precision) partQuotient(a, b parts) (parts, bool) {
	for _, x := range []float64{a.re, a.im, b.re, b.im} {
		if math.IsNaN(x) || math.IsInf(x, 0) {
			return parts{}, false
		}
	}
	if b.re == 0 && b.im == 0 {
		return parts{}, false
	}
	if math.Abs(b.re) >= math.Abs(b.im) {
		r := p.quotient(b.im, b.re)
		d := p.sum(b.re, p.product(r, b.im))
		return parts{
			p.quotient(p.sum(a.re, p.product(a.im, r)), d),
			p.quotient(p.difference(a.im, p.product(a.re, r)), d),
		}, true
	}
	r := p.quotient(b.re, b.im)
	d := p.sum(b.im, p.product(r, b.re))
	return parts{
		p.quotient(p.sum(p.product(a.re, r), a.im), d),
		p.quotient(p.difference(p.product(a.im, r), a.re), d),
	}, true
}

// sampleProduct and sampleQuotient are those of double precision, narrowed.
func sampleProduct(a, b parts) parts { return double.partProduct(a, b).in(single) }

func sampleQuotient(a, b parts) (parts, bool) {
	q, ok := double.partQuotient(a, b)
	return q.in(single), ok
}

func sameFloat(a, b float64) bool {
	return math.IsNaN(a) && math.IsNaN(b) || math.Float64bits(a) == math.Float64bits(b)
}

func (a parts) same(b parts) bool { return sameFloat(a.re, b.re) && sameFloat(a.im, b.im) }

func sameSamples(got []impl.Sample, want []parts) bool {
	if len(got) != len(want) {
		return false
	}
	for i, one := range got {
		if !partsOf(one).same(want[i]) {
			return false
		}
	}
	return true
}

func samplesFrom(list []parts) []impl.Sample {
	var samples []impl.Sample
	for _, a := range list {
		samples = append(samples, a.sample())
	}
	return samples
}

// hardSingles are at the ends of what a single can be, and beside numbers at
// which roundings turn.
func hardSingles() []float64 {
	return []float64{
		0, minus0, 1, -1, 0x1.000002p0, -0x1.fffffep-1, 0x1.99999ap-4, 0x1.001p0,
		0x1p-149, -0x1.8p-146, 0x1p-126, 0x1.fffffep127, -0x1.fffffep127, endless, -endless, noNumber,
	}
}

// hardDoubles are likewise those of doubles.
func hardDoubles() []float64 {
	return []float64{
		0, minus0, 1, -1, 0x1.0000000000001p0, -0x1.fffffffffffffp-1, 0x1.999999999999ap-4,
		0x1p-1074, -0x1.8p-1071, 0x1p-1022, 0x1p-540, 0x1.fffffffffffffp1023, -0x1.fffffffffffffp1023,
		endless, -endless, noNumber,
	}
}

func eachPair(list []float64, visit func(a parts)) {
	for _, re := range list {
		for _, im := range list {
			visit(parts{re, im})
		}
	}
}

func eachTwoPairs(list []float64, visit func(a, b parts)) {
	eachPair(list, func(a parts) {
		eachPair(list, func(b parts) { visit(a, b) })
	})
}

func drawBits(r *drawn) uint64 {
	return uint64(r.below(1<<22))<<42 ^ uint64(r.below(1<<22))<<21 ^ uint64(r.below(1<<22))
}

// drawSingle is a whole number, one of much the same size as the others, or any
// at all.
func drawSingle(r *drawn) float64 {
	bits := uint32(drawBits(r))
	switch r.below(4) {
	case 0:
		return float64(r.below(41) - 20)
	case 1:
		return float64(math.Float32frombits(bits))
	}
	return float64(math.Float32frombits(bits&0x80ffffff + 0x3f000000))
}

func drawDouble(r *drawn) float64 {
	bits := drawBits(r)
	switch r.below(4) {
	case 0:
		return float64(r.below(41) - 20)
	case 1:
		return math.Float64frombits(bits)
	}
	return math.Float64frombits(bits&0x801fffffffffffff + 0x3fe0000000000000)
}

func drawParts(r *drawn, draw func(r *drawn) float64) parts { return parts{draw(r), draw(r)} }

// P14: the second telling itself, at what is known of floats.
func TestSecondFloats(t *testing.T) {
	for _, c := range []struct{ got, want float64 }{
		{single.sum(0x1p24, 1), 0x1p24},
		{double.sum(0x1p24, 1), 16777217},
		{single.sum(0x1p24, 3), 16777220},
		{single.sum(minus0, minus0), minus0},
		{single.sum(minus0, 0), 0},
		{single.difference(minus0, 0), minus0},
		{single.difference(1, 1), 0},
		{double.sum(endless, -endless), noNumber},
		{double.product(endless, minus0), noNumber},
		{double.product(-2, 0), minus0},
		{double.product(0x1p-1000, -0x1p-1000), minus0},
		{double.product(0x1p1000, 0x1p1000), endless},
		{double.product(0.1, 0.1), 0x1.47ae147ae147cp-7},
		{double.quotient(1, 3), 0x1.5555555555555p-2},
		{single.quotient(1, 3), 0x1.555556p-2},
		{double.quotient(0x1.8p-1073, 2), 0x1p-1073},
		{double.quotient(0, 0), noNumber},
		{double.quotient(1, minus0), -endless},
		{single.turnedInto(0.1), 0x1.99999ap-4},
		{single.turnedInto(-1e300), -endless},
		{parts{1, 0}.turned().im, minus0},
		{parts{1, minus0}.turned().im, 0},
		{parts{1, -endless}.turned().im, endless},
	} {
		if !sameFloat(c.got, c.want) {
			t.Errorf("%x, not %x", c.got, c.want)
		}
	}
}
