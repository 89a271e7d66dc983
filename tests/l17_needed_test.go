package tests

import (
	"math/big"
	"testing"

	"loop.example/g00052/impl"
)

// neededByTerms goes from the most circuits down, as long as they are enough.
func neededByTerms(blocked []*big.Rat, want impl.Fraction) int {
	needed := -1
	for servers := 8; servers >= 0; servers-- {
		if blocked[servers].Cmp(ratOf(want)) <= 0 {
			needed = servers
		}
	}
	return needed
}

func blockedByAll(num, den int) []*big.Rat {
	var list []*big.Rat
	for servers := range 9 {
		list = append(list, blockedByTerms(servers, num, den))
	}
	return list
}

func checkNeeded(t *testing.T, num, den int, f impl.Fraction, want int) {
	t.Helper()
	if got, ok := impl.Needed17(num, den, f); got != want || ok != (want >= 0) {
		t.Errorf("Needed17(%d, %d, %d): %d and %t, not %d", num, den, f, got, ok, want)
	}
}

// P17: known loads and parts.
func TestKnownNeeded(t *testing.T) {
	for _, c := range []struct {
		num, den int
		part     impl.Fraction
		want     int
	}{
		// Without circuits all is blocked: a part of 1 or more asks for none.
		{3, 2, part(1, 1), 0},
		{20, 1, part(1000, 1000), 0},
		{20, 1, part(1000, 999), 0},
		{20, 1, part(1000, 1), 0},
		{20, 1, part(999, 1000), 1},
		{0, 1, part(1, 1), 0},
		// Of no load, one circuit blocks nothing.
		{0, 1, part(0, 1), 1},
		{0, 10, part(0, 1000), 1},
		{0, 7, part(999, 1000), 1},
		// Met just so, and missed by a little.
		{1, 1, part(1, 2), 1},
		{1, 1, part(500, 1000), 1},
		{1, 1, part(499, 1000), 2},
		{1, 1, part(499, 999), 2},
		{1, 1, part(500, 999), 1},
		{1, 1, part(1, 5), 2},
		{1, 1, part(200, 1000), 2},
		{1, 1, part(199, 996), 3},
		{1, 1, part(199, 995), 2},
		{1, 1, part(1, 16), 3},
		{1, 1, part(62, 992), 3},
		{1, 1, part(62, 993), 4},
		{3, 2, part(1, 3), 2},
		{3, 2, part(9, 29), 2},
		{3, 2, part(306, 986), 2},
		{3, 2, part(306, 987), 3},
		{3, 2, part(3, 5), 1},
		{6, 4, part(9, 29), 2},
		{15, 10, part(27, 87), 2},
		{1, 10, part(1, 11), 1},
		{1, 10, part(90, 991), 2},
		// None is enough.
		{20, 1, part(1, 100), -1},
		{1, 1, part(0, 1), -1},
		{1, 10, part(0, 1000), -1},
		{20, 1, part(1, 1000), -1},
	} {
		checkNeeded(t, c.num, c.den, c.part, c.want)
		if told := neededByTerms(blockedByAll(c.num, c.den), c.part); told != c.want {
			t.Errorf("the second telling of %v is wrong: %d", c, told)
		}
	}
}

// P17: parts that are just met or missed by the least that a Den can tell, at
// every load.
func TestNeededNearEachPart(t *testing.T) {
	told := map[int]int{}
	everyLoad(func(num, den int) {
		blocked := blockedByAll(num, den)
		for servers, exact := range blocked {
			for _, by := range []int64{1, 2, 29, 500, 720, 991, 999, 1000} {
				scaled := new(big.Int).Mul(exact.Num(), big.NewInt(by))
				down := int(scaled.Quo(scaled, exact.Denom()).Int64())
				for n := max(0, down-1); n <= down+1 && n <= 1000; n++ {
					want := neededByTerms(blocked, part(n, int(by)))
					checkNeeded(t, num, den, part(n, int(by)), want)
					told[want]++
				}
			}
			if exact.Denom().Cmp(big.NewInt(1000)) <= 0 && num > 0 {
				checkNeeded(t, num, den, part(int(exact.Num().Int64()), int(exact.Denom().Int64())), servers)
			}
		}
	})
	for want := -1; want <= 8; want++ {
		if told[want] < 50 {
			t.Error("too few parts ask for that many", want, told[want])
		}
	}
}

// P17: a part is the same in whatever terms.
func TestNeededInAllTerms(t *testing.T) {
	for _, f := range []impl.Fraction{part(0, 1), part(1, 2), part(1, 5), part(9, 29), part(3, 5), part(1, 65), part(2, 1)} {
		everyLoad(func(num, den int) {
			want, _ := impl.Needed17(num, den, f)
			for k := 2; k*max(f.Num, f.Den) <= 1000; k += 1 + k/4 {
				checkNeeded(t, num, den, part(k*f.Num, k*f.Den), want)
			}
		})
	}
}

// P17: a load is the same in whatever terms, and more of it needs no fewer.
func TestNeededByLoads(t *testing.T) {
	for _, f := range []impl.Fraction{part(1, 2), part(1, 10), part(1, 100), part(9, 29), part(1, 1000)} {
		everyLoad(func(num, den int) {
			got, _ := impl.Needed17(num, den, f)
			everyLoad(func(other, by int) {
				more, _ := impl.Needed17(other, by, f)
				if other*den == num*by && more != got {
					t.Errorf("%d/%d and %d/%d need %d and %d", num, den, other, by, got, more)
				}
				if other*den > num*by && more >= 0 && (got < 0 || got > more) {
					t.Errorf("%d/%d needs %d, the lesser %d/%d %d", other, by, more, num, den, got)
				}
			})
		})
	}
}

// P17, P21: num in 0 .. 20, den in 1 .. 10, Num in 0 .. 1000, Den in 1 .. 1000.
func TestNeededLimits(t *testing.T) {
	parts := []impl.Fraction{part(0, 1), part(0, 1000), part(1, 1), part(1, 1000), part(1000, 1), part(1000, 1000), part(1, 3)}
	for _, f := range parts {
		for _, num := range []int{0, 1, 19, 20} {
			for _, den := range []int{1, 2, 9, 10} {
				checkNeeded(t, num, den, f, neededByTerms(blockedByAll(num, den), f))
			}
		}
		for _, wrong := range outside(0, 20) {
			checkNeeded(t, wrong, 1, f, -1)
			checkNeeded(t, wrong, 10, f, -1)
			checkNeeded(t, wrong, 0, f, -1)
		}
		for _, wrong := range outside(1, 10) {
			checkNeeded(t, 0, wrong, f, -1)
			checkNeeded(t, 20, wrong, f, -1)
			checkNeeded(t, 21, wrong, f, -1)
		}
	}
	everyLoad(func(num, den int) {
		for _, wrong := range outside(0, 1000) {
			checkNeeded(t, num, den, part(wrong, 1), -1)
			checkNeeded(t, num, den, part(wrong, 1000), -1)
			checkNeeded(t, num, den, part(wrong, wrong), -1)
		}
		for _, wrong := range outside(1, 1000) {
			checkNeeded(t, num, den, part(0, wrong), -1)
			checkNeeded(t, num, den, part(1, wrong), -1)
			checkNeeded(t, num, den, part(1000, wrong), -1)
		}
	})
}
