package tests

import (
	"slices"
	"testing"

	"loop.example/g00052/impl"
)

// secondSums adds all, from +0 on, in both precisions.
func secondSums(list []parts) (parts, parts) {
	var narrow, wide parts
	for _, a := range list {
		narrow, wide = single.partSum(narrow, a), double.partSum(wide, a)
	}
	return narrow, wide
}

func secondMatch(list, known []parts) parts {
	var sum parts
	for i, a := range list {
		sum = double.partSum(sum, double.partProduct(a, known[i].turned()))
	}
	return sum
}

func secondTurns(by parts, n int) []parts {
	var list []parts
	for i := range n {
		if i == 0 {
			list = append(list, parts{1, 0})
		} else {
			list = append(list, sampleProduct(list[i-1], by))
		}
	}
	return list
}

func drawList(r *drawn, n int, draw func(r *drawn) float64) []parts {
	var list []parts
	for range n {
		list = append(list, drawParts(r, draw))
	}
	return list
}

// drawNear is a single of much the same size as others, so that sums of them
// are rounded and stay finite.
func drawNear(r *drawn) float64 {
	return single.turnedInto(float64(r.below(1<<24)-1<<23) / float64(int(1)<<(17+r.below(8))))
}

// P14: 0 and -0 are the same, no NaN is.
func TestSameSample(t *testing.T) {
	for _, c := range []struct {
		a, b float64
		want bool
	}{
		{0, 0, true},
		{0, minus0, true},
		{minus0, 0, true},
		{minus0, minus0, true},
		{1, 1, true},
		{1, -1, false},
		{1, 0x1.000002p0, false},
		{0, 0x1p-149, false},
		{minus0, 0x1p-149, false},
		{endless, endless, true},
		{-endless, -endless, true},
		{endless, -endless, false},
		{endless, 0x1.fffffep127, false},
		{noNumber, noNumber, false},
		{noNumber, 1, false},
		{noNumber, endless, false},
		{0, noNumber, false},
	} {
		for _, other := range []float64{0, 3, -endless} {
			for _, pair := range [][2]parts{{{c.a, other}, {c.b, other}}, {{other, c.a}, {other, c.b}}, {{c.a, c.a}, {c.b, c.b}}} {
				if impl.SameSample(pair[0].sample(), pair[1].sample()) != c.want {
					t.Errorf("SameSample(%x, %x) is not %t", pair[0], pair[1], c.want)
				}
			}
		}
		for _, pair := range [][2]parts{{{c.a, 1}, {c.b, 2}}, {{1, c.a}, {2, c.b}}, {{c.a, noNumber}, {c.b, noNumber}}, {{noNumber, c.a}, {noNumber, c.b}}} {
			if impl.SameSample(pair[0].sample(), pair[1].sample()) {
				t.Errorf("SameSample(%x, %x) is true", pair[0], pair[1])
			}
		}
	}
	if impl.SameSample(impl.Sample{Re: 1, Im: 2}, impl.Sample{Re: 2, Im: 1}) {
		t.Error("parts are held against each other crosswise")
	}
}

func checkSums(t *testing.T, list []parts, narrow, wide parts) {
	t.Helper()
	gotNarrow, gotWide := impl.Sums(samplesFrom(list))
	if !partsOf(gotNarrow).same(narrow) || !partsOfWide(gotWide).same(wide) {
		t.Errorf("Sums(%x): %x and %x, not %x and %x", list, gotNarrow, gotWide, narrow, wide)
	}
}

// P14: known sums in both precisions.
func TestKnownSums(t *testing.T) {
	for _, c := range []struct {
		list         []parts
		narrow, wide parts
	}{
		{nil, parts{}, parts{}},
		{[]parts{{3, -4}}, parts{3, -4}, parts{3, -4}},
		{[]parts{{minus0, minus0}}, parts{0, 0}, parts{0, 0}},
		{[]parts{{minus0, 1}, {minus0, -1}, {minus0, minus0}}, parts{0, 0}, parts{0, 0}},
		{[]parts{{1, 2}, {3, 4}, {5, 6}}, parts{9, 12}, parts{9, 12}},
		{[]parts{{16777216, 0}, {1, 0}, {1, 0}}, parts{16777216, 0}, parts{16777218, 0}},
		{[]parts{{1, 0}, {1, 0}, {16777216, 0}}, parts{16777218, 0}, parts{16777218, 0}},
		{[]parts{{0, 16777216}, {0, 1}, {0, -16777216}}, parts{0, 0}, parts{0, 1}},
		{[]parts{{0x1p60, 1}, {1, 1}, {-0x1p60, 1}}, parts{0, 3}, parts{0, 3}},
		{[]parts{{1, 1}, {0x1p-24, 0x1p-60}, {0x1p-24, -1}}, parts{1, 0}, parts{0x1.000002p0, 0}},
		{[]parts{{0x1.fffffep127, 0}, {0x1.fffffep127, 0}, {-0x1.fffffep127, 0}}, parts{endless, 0}, parts{0x1.fffffep127, 0}},
		{[]parts{{endless, 1}, {1, -endless}}, parts{endless, -endless}, parts{endless, -endless}},
		{[]parts{{endless, 1}, {-endless, 1}}, parts{noNumber, 2}, parts{noNumber, 2}},
		{[]parts{{1, noNumber}, {1, 1}}, parts{2, noNumber}, parts{2, noNumber}},
	} {
		checkSums(t, c.list, c.narrow, c.wide)
		if narrow, wide := secondSums(c.list); !narrow.same(c.narrow) || !wide.same(c.wide) {
			t.Errorf("the second telling of %x is wrong: %x and %x", c.list, narrow, wide)
		}
	}
}

// P14: many drawn lists, whose order plays a part.
func TestDrawnSums(t *testing.T) {
	r := drawn(1406)
	turned, apart := 0, 0
	for n := range 201 {
		for _, draw := range []func(r *drawn) float64{drawNear, drawSingle} {
			list := drawList(&r, n, draw)
			narrow, wide := secondSums(list)
			checkSums(t, list, narrow, wide)
			slices.Reverse(list)
			otherNarrow, otherWide := secondSums(list)
			checkSums(t, list, otherNarrow, otherWide)
			if !narrow.same(otherNarrow) {
				turned++
			}
			if !narrow.same(wide.in(single)) {
				apart++
			}
		}
	}
	if turned < 100 || apart < 100 {
		t.Errorf("only %d and %d would be told otherwise", turned, apart)
	}
}

// P14: sums of whole numbers are the same in both precisions, as long as a
// single can hold them.
func TestWholeSums(t *testing.T) {
	r := drawn(1407)
	for n := range 201 {
		var list []parts
		re, im := 0, 0
		for range n {
			x, y := r.below(83886*2)-83886, r.below(2001)-1000
			list, re, im = append(list, parts{float64(x), float64(y)}), re+x, im+y
		}
		checkSums(t, list, parts{float64(re), float64(im)}, parts{float64(re), float64(im)})
	}
	full := slices.Repeat([]parts{{83886, -83886}}, 200)
	checkSums(t, full, parts{16777200, -16777200}, parts{16777200, -16777200})
	full[0] = parts{83886 + 16, -83886 - 16}
	checkSums(t, full, parts{16777216, -16777216}, parts{16777216, -16777216})
}

// P14, P21: MaxSamples are summed, one more is not.
func TestSumsSizes(t *testing.T) {
	if impl.MaxSamples != 200 {
		t.Error("MaxSamples is", impl.MaxSamples)
	}
	for _, n := range []int{0, 1, 2, 199, 200} {
		checkSums(t, slices.Repeat([]parts{{1, -2}}, n), parts{float64(n), 0 - 2*float64(n)}, parts{float64(n), 0 - 2*float64(n)})
		checkSums(t, slices.Repeat([]parts{{minus0, minus0}}, n), parts{}, parts{})
	}
	for _, n := range []int{201, 202, 400, 5000} {
		checkSums(t, slices.Repeat([]parts{{1, -2}}, n), parts{}, parts{})
		checkSums(t, slices.Repeat([]parts{{noNumber, endless}}, n), parts{}, parts{})
	}
}

func checkMatch(t *testing.T, list, known []parts, want parts) {
	t.Helper()
	if got, ok := impl.Match14(samplesFrom(list), samplesFrom(known)); !ok || !partsOfWide(got).same(want) {
		t.Errorf("Match14(%x, %x): %x and %t, not %x", list, known, got, ok, want)
	}
}

// P14: known matches, with the sign of Im turned in the known one alone.
func TestKnownMatch(t *testing.T) {
	for _, c := range []struct {
		list, known []parts
		want        parts
	}{
		{[]parts{{1, 2}}, []parts{{1, 2}}, parts{5, 0}},
		{[]parts{{1, 2}}, []parts{{3, 4}}, parts{11, 2}},
		{[]parts{{3, 4}}, []parts{{1, 2}}, parts{11, -2}},
		{[]parts{{0, 1}}, []parts{{1, 0}}, parts{0, 1}},
		{[]parts{{1, 0}}, []parts{{0, 1}}, parts{0, -1}},
		{[]parts{{1, 2}, {3, -1}}, []parts{{1, 2}, {1, 2}}, parts{6, -7}},
		{[]parts{{1, 0}}, []parts{{1, 0}}, parts{1, 0}},
		{[]parts{{1, 0}}, []parts{{1, minus0}}, parts{1, 0}},
		{[]parts{{-1, minus0}}, []parts{{1, 0}}, parts{-1, 0}},
		{[]parts{{minus0, 0}}, []parts{{1, 0}}, parts{0, 0}},
		{[]parts{{minus0, minus0}}, []parts{{0, minus0}}, parts{0, 0}},
		{[]parts{{0, minus0}}, []parts{{-1, 0}}, parts{0, 0}},
		{[]parts{{0x1p24, 0}, {1, 0}}, []parts{{1, 0}, {1, 0}}, parts{16777217, 0}},
		{[]parts{{0x1p60, 0}, {1, 0}, {-0x1p60, 0}}, []parts{{1, 0}, {1, 0}, {1, 0}}, parts{0, 0}},
		{[]parts{{0x1p60, 0}, {-0x1p60, 0}, {1, 0}}, []parts{{1, 0}, {1, 0}, {1, 0}}, parts{1, 0}},
		{[]parts{{0x1p120, 0}}, []parts{{0x1p120, 0}}, parts{0x1p240, 0}},
		{[]parts{{endless, 1}}, []parts{{1, 1}}, parts{endless, -endless}},
		{[]parts{{endless, 1}}, []parts{{1, 0}}, parts{endless, noNumber}},
		{[]parts{{1, 1}, {1, 1}}, []parts{{1, 1}, {1, noNumber}}, parts{noNumber, noNumber}},
	} {
		checkMatch(t, c.list, c.known, c.want)
		if told := secondMatch(c.list, c.known); !told.same(c.want) {
			t.Errorf("the second telling of %x is wrong: %x", c, told)
		}
	}
}

// P14: hard numbers, Im of 0 and of -0 among them, and many drawn lists.
func TestDrawnMatches(t *testing.T) {
	eachTwoPairs(hardSingles()[:12], func(a, b parts) {
		list, known := []parts{a, {b.im, a.re}}, []parts{b, {minus0, a.im}}
		checkMatch(t, list[:1], known[:1], secondMatch(list[:1], known[:1]))
		checkMatch(t, list, known, secondMatch(list, known))
	})
	r := drawn(1408)
	turned, inSingles := 0, 0
	for n := 1; n <= 200; n++ {
		for _, draw := range []func(r *drawn) float64{drawNear, drawSingle} {
			list, known := drawList(&r, n, draw), drawList(&r, n, draw)
			want := secondMatch(list, known)
			checkMatch(t, list, known, want)
			var narrow parts
			for i, a := range list {
				narrow = double.partSum(narrow, sampleProduct(a, known[i].turned()))
			}
			if !narrow.same(want) {
				inSingles++
			}
			slices.Reverse(list)
			slices.Reverse(known)
			other := secondMatch(list, known)
			checkMatch(t, list, known, other)
			if !other.same(want) {
				turned++
			}
		}
	}
	if turned < 50 || inSingles < 50 {
		t.Errorf("only %d and %d would be told otherwise", turned, inSingles)
	}
}

// P14, P21: as long as one another, one to MaxSamples.
func TestMatchSizes(t *testing.T) {
	of := func(n int) []impl.Sample { return slices.Repeat([]impl.Sample{{Re: 1, Im: 1}}, n) }
	sizes := []int{0, 1, 2, 26, 199, 200, 201, 202, 1000}
	for _, n := range sizes {
		for _, m := range sizes {
			got, ok := impl.Match14(of(n), of(m))
			want, wantOk := parts{}, n == m && n >= 1 && n <= 200
			if wantOk {
				want = parts{2 * float64(n), 0}
			}
			if ok != wantOk || !partsOfWide(got).same(want) {
				t.Errorf("%d and %d samples: %v and %t", n, m, got, ok)
			}
		}
	}
	if got, ok := impl.Match14(nil, nil); ok || !partsOfWide(got).same(parts{}) {
		t.Errorf("nothing matches nothing: %v", got)
	}
}

func checkTurns(t *testing.T, by parts, want []parts) {
	t.Helper()
	if got, ok := impl.Turns(by.sample(), len(want)); !ok || !sameSamples(got, want) {
		t.Errorf("Turns(%x, %d): %x and %t, not %x", by, len(want), got, ok, want)
	}
}

// P14: known turns.
func TestKnownTurns(t *testing.T) {
	for _, c := range []struct {
		by   parts
		want []parts
	}{
		{parts{0, 1}, []parts{{1, 0}, {0, 1}, {-1, 0}, {minus0, -1}, {1, minus0}, {0, 1}, {-1, 0}}},
		{parts{0, -1}, []parts{{1, 0}, {0, -1}, {-1, minus0}, {minus0, 1}, {1, 0}, {0, -1}}},
		{parts{0, 2}, []parts{{1, 0}, {0, 2}, {-4, 0}, {minus0, -8}}},
		{parts{1, 1}, []parts{{1, 0}, {1, 1}, {0, 2}, {-2, 2}, {-4, 0}}},
		{parts{0, 0}, []parts{{1, 0}, {0, 0}, {0, 0}, {0, 0}}},
		{parts{minus0, minus0}, []parts{{1, 0}, {0, minus0}, {minus0, 0}, {0, 0}, {0, minus0}}},
		{parts{1, 0}, []parts{{1, 0}, {1, 0}, {1, 0}}},
		{parts{1, minus0}, []parts{{1, 0}, {1, 0}, {1, 0}}},
		{parts{-1, 0}, []parts{{1, 0}, {-1, 0}, {1, minus0}, {-1, 0}}},
		{parts{0x1.001p0, 0}, []parts{{1, 0}, {0x1.001p0, 0}, {0x1.002p0, 0}, {0x1.003002p0, 0}}},
		{parts{0x1p100, 0}, []parts{{1, 0}, {0x1p100, 0}, {endless, 0}, {endless, noNumber}, {noNumber, noNumber}}},
		{parts{0x1p-100, 0}, []parts{{1, 0}, {0x1p-100, 0}, {0, 0}, {0, 0}}},
		{parts{endless, 0}, []parts{{1, 0}, {endless, noNumber}, {noNumber, noNumber}}},
		{parts{1, noNumber}, []parts{{1, 0}, {noNumber, noNumber}}},
	} {
		for n := range len(c.want) + 1 {
			checkTurns(t, c.by, c.want[:n])
		}
		if told := secondTurns(c.by, len(c.want)); !sameSamples(samplesFrom(told), c.want) {
			t.Errorf("the second telling of %x is wrong: %x", c, told)
		}
	}
}

// P14: what is rounded at each step, which is not what is rounded in the end.
func TestDrawnTurns(t *testing.T) {
	r := drawn(1409)
	atEnd, inSingles := 0, 0
	for range 300 {
		size := 1 + float64(r.below(1000)-500)/100000
		by := parts{size * float64(r.below(1000)-500) / 500, size * float64(r.below(1000)-500) / 500}.in(single)
		want := secondTurns(by, 30)
		checkTurns(t, by, want)
		wide, narrow := parts{1, 0}, parts{1, 0}
		for range 29 {
			wide, narrow = double.partProduct(wide, by), single.partProduct(narrow, by)
		}
		if !wide.in(single).same(want[29]) {
			atEnd++
		}
		if !narrow.same(want[29]) {
			inSingles++
		}
	}
	if atEnd < 100 || inSingles < 100 {
		t.Errorf("only %d and %d would be told otherwise", atEnd, inSingles)
	}
	for range 20 {
		by := drawParts(&r, drawSingle)
		checkTurns(t, by, secondTurns(by, 200))
	}
	eachPair(hardSingles(), func(by parts) { checkTurns(t, by, secondTurns(by, 6)) })
}

// P14, P21: no samples, MaxSamples, and neither fewer than none nor one more.
func TestTurnsSizes(t *testing.T) {
	for _, n := range []int{0, 1, 2, 199, 200} {
		got, ok := impl.Turns(impl.Sample{Re: -1}, n)
		if !ok || len(got) != n || n > 0 && !partsOf(got[n-1]).same(secondTurns(parts{-1, 0}, n)[n-1]) {
			t.Errorf("%d: %d samples and %t", n, len(got), ok)
		}
	}
	for _, n := range append([]int{-1, -2, -200, 201, 202, 1000}, farNumbers...) {
		if got, ok := impl.Turns(impl.Sample{Re: 1}, n); ok || len(got) != 0 {
			t.Errorf("%d: %d samples and %t", n, len(got), ok)
		}
	}
}
