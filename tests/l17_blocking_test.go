package tests

import (
	"math/big"
	"testing"

	"loop.example/g00052/impl"
)

func part(num, den int) impl.Fraction { return impl.Fraction{Num: num, Den: den} }

func ratOf(f impl.Fraction) *big.Rat { return big.NewRat(int64(f.Num), int64(f.Den)) }

// blockedByTerms tells the part without the recurrence: the last of the terms 1,
// a, a a / 2, a a a / 6 .. among the sum of all.
func blockedByTerms(servers, num, den int) *big.Rat {
	load, term, sum := big.NewRat(int64(num), int64(den)), big.NewRat(1, 1), big.NewRat(1, 1)
	for n := 1; n <= servers; n++ {
		term.Mul(term, load)
		term.Quo(term, big.NewRat(int64(n), 1))
		sum.Add(sum, term)
	}
	return term.Quo(term, sum)
}

func everyLoad(visit func(num, den int)) {
	for num := range 21 {
		for den := 1; den <= 10; den++ {
			visit(num, den)
		}
	}
}

func checkBlocking(t *testing.T, servers, num, den int, want impl.Fraction) {
	t.Helper()
	if got, ok := impl.Blocking(servers, num, den); !ok || got != want {
		t.Errorf("Blocking(%d, %d, %d): %d and %t, not %d", servers, num, den, got, ok, want)
	}
}

func checkNoBlocking(t *testing.T, servers, num, den int) {
	t.Helper()
	if got, ok := impl.Blocking(servers, num, den); ok || got != (impl.Fraction{}) {
		t.Errorf("Blocking(%d, %d, %d): %d and %t", servers, num, den, got, ok)
	}
}

// mustBlock is the part as a ratio; only what is told in lowest terms, of a Den
// above 0, is one.
func mustBlock(t *testing.T, servers, num, den int) *big.Rat {
	t.Helper()
	f, ok := impl.Blocking(servers, num, den)
	if !ok || f.Den < 1 || f.Num < 0 {
		t.Fatalf("Blocking(%d, %d, %d): %d and %t", servers, num, den, f, ok)
	}
	r := ratOf(f)
	if r.Num().Int64() != int64(f.Num) || r.Denom().Int64() != int64(f.Den) {
		t.Fatalf("Blocking(%d, %d, %d): %d, not in lowest terms", servers, num, den, f)
	}
	return r
}

// P17: known loads.
func TestKnownBlocking(t *testing.T) {
	for _, c := range []struct {
		servers, num, den int
		want              impl.Fraction
	}{
		// Without circuits all is blocked, of no load too.
		{0, 0, 1, part(1, 1)},
		{0, 0, 10, part(1, 1)},
		{0, 5, 1, part(1, 1)},
		{0, 20, 10, part(1, 1)},
		// Of a load of nothing, nothing is.
		{1, 0, 1, part(0, 1)},
		{1, 0, 10, part(0, 1)},
		{3, 0, 5, part(0, 1)},
		{8, 0, 7, part(0, 1)},
		{1, 1, 1, part(1, 2)},
		{2, 1, 1, part(1, 5)},
		{3, 1, 1, part(1, 16)},
		{4, 1, 1, part(1, 65)},
		{8, 1, 1, part(1, 109601)},
		{1, 3, 2, part(3, 5)},
		{2, 3, 2, part(9, 29)},
		{1, 20, 1, part(20, 21)},
		{2, 2, 1, part(2, 5)},
		{1, 1, 10, part(1, 11)},
		{2, 1, 10, part(1, 221)},
		// Loads in other than lowest terms.
		{1, 2, 2, part(1, 2)},
		{1, 10, 10, part(1, 2)},
		{2, 6, 4, part(9, 29)},
		{2, 9, 6, part(9, 29)},
		{2, 15, 10, part(9, 29)},
		{2, 20, 10, part(2, 5)},
	} {
		checkBlocking(t, c.servers, c.num, c.den, c.want)
		if told := blockedByTerms(c.servers, c.num, c.den); told.Cmp(ratOf(c.want)) != 0 {
			t.Errorf("the second telling of %v is wrong: %v", c, told)
		}
	}
}

// P17: every load and number of circuits solves the recurrence, in lowest terms.
func TestBlockingSolvesItsRecurrence(t *testing.T) {
	everyLoad(func(num, den int) {
		load := big.NewRat(int64(num), int64(den))
		if mustBlock(t, 0, num, den).Cmp(big.NewRat(1, 1)) != 0 {
			t.Errorf("of no circuits not all are busy, by %d/%d", num, den)
		}
		for n := 1; n <= 8; n++ {
			came := new(big.Rat).Mul(load, mustBlock(t, n-1, num, den))
			want := new(big.Rat).Quo(came, new(big.Rat).Add(big.NewRat(int64(n), 1), came))
			if got := mustBlock(t, n, num, den); got.Cmp(want) != 0 {
				t.Errorf("Blocking(%d, %d, %d): %v, not %v", n, num, den, got, want)
			}
		}
	})
}

// P17: every load and number of circuits, held against the terms.
func TestBlockingByTerms(t *testing.T) {
	everyLoad(func(num, den int) {
		for servers := range 9 {
			if got, want := mustBlock(t, servers, num, den), blockedByTerms(servers, num, den); got.Cmp(want) != 0 {
				t.Errorf("Blocking(%d, %d, %d): %v, not %v", servers, num, den, got, want)
			}
		}
	})
}

// P17: with one circuit more, or with less load, no greater part is blocked;
// where there is a load, a lesser one.
func TestMoreCircuitsBlockNoMore(t *testing.T) {
	everyLoad(func(num, den int) {
		for servers := range 8 {
			more, fewer := mustBlock(t, servers+1, num, den), mustBlock(t, servers, num, den)
			if more.Cmp(fewer) >= 0 && (num > 0 || servers == 0) {
				t.Errorf("one more than %d circuits blocks as much, by %d/%d", servers, num, den)
			}
			if num == 0 && more.Sign() != 0 {
				t.Errorf("a load of nothing is blocked by %d circuits", servers+1)
			}
		}
	})
}

// P17: the same circuits under every two loads.
func TestLessLoadBlocksNoMore(t *testing.T) {
	for servers := range 9 {
		everyLoad(func(num, den int) {
			load, blocked := big.NewRat(int64(num), int64(den)), mustBlock(t, servers, num, den)
			everyLoad(func(less, by int) {
				order := big.NewRat(int64(less), int64(by)).Cmp(load)
				got := mustBlock(t, servers, less, by).Cmp(blocked)
				if servers == 0 && got != 0 || servers > 0 && got != order {
					t.Errorf("%d circuits by %d/%d and %d/%d", servers, less, by, num, den)
				}
			})
		})
	}
}

// P17, P21: 0 to 8 circuits, num in 0 .. 20, den in 1 .. 10, also where they play
// no part.
func TestBlockingLimits(t *testing.T) {
	everyLoad(func(num, den int) {
		for _, servers := range []int{0, 1, 7, 8} {
			mustBlock(t, servers, num, den)
		}
		for _, wrong := range outside(0, 8) {
			checkNoBlocking(t, wrong, num, den)
		}
	})
	for servers := range 9 {
		for _, wrong := range outside(0, 20) {
			for _, den := range []int{0, 1, 5, 10, 11} {
				checkNoBlocking(t, servers, wrong, den)
			}
		}
		for _, wrong := range outside(1, 10) {
			for _, num := range []int{-1, 0, 1, 5, 20, 21} {
				checkNoBlocking(t, servers, num, wrong)
			}
		}
	}
	if impl.MaxServers != 8 || impl.MaxCalls != 200 {
		t.Error("other limits", impl.MaxServers, impl.MaxCalls)
	}
}
