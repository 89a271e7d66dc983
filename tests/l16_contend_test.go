package tests

import (
	"fmt"
	"slices"
	"strings"
	"testing"

	"loop.example/g00052/impl"
)

// askersOf reads the coins of each asker, with a / between two askers:
// "5 2 1/1 0//2" are four, of whom the third has no coins.
func askersOf(text string) []impl.Asker {
	var askers []impl.Asker
	for _, part := range strings.Split(text, "/") {
		askers = append(askers, impl.Asker{Coins: numbersOf(part)})
	}
	return askers
}

// textOfAskers writes what askersOf reads.
func textOfAskers(askers []impl.Asker) string {
	var parts []string
	for _, asker := range askers {
		parts = append(parts, strings.Trim(fmt.Sprint(asker.Coins), "[]"))
	}
	return strings.Join(parts, "/")
}

func copyOfAskers(askers []impl.Asker) []impl.Asker {
	var other []impl.Asker
	for _, asker := range askers {
		other = append(other, impl.Asker{Coins: slices.Clone(asker.Coins)})
	}
	return other
}

// withCoin is a copy with another coin at a place.
func withCoin(askers []impl.Asker, asker, place, coin int) []impl.Asker {
	other := copyOfAskers(askers)
	other[asker].Coins[place] = coin
	return other
}

// asksAt tells whether an asker asks in a round, when what was heard ahead of
// that round is known.
func asksAt(asker impl.Asker, heard, round int) bool {
	return len(asker.Coins) > round && (heard == -1 || heard >= round)
}

// contendByPairs holds each asker against each other one.
func contendByPairs(askers []impl.Asker, slots, rounds int) []int {
	heard := slices.Repeat([]int{-1}, len(askers))
	for round := range rounds {
		for i, one := range askers {
			alone := asksAt(one, heard[i], round)
			for j, other := range askers {
				if i != j && alone && asksAt(other, heard[j], round) && (one.Coins[round]-other.Coins[round])%slots == 0 {
					alone = false
				}
			}
			if alone {
				heard[i] = round
			}
		}
	}
	return heard
}

func checkContend(t *testing.T, askers []impl.Asker, slots, rounds int, want []int) {
	t.Helper()
	if got, ok := impl.Contend(askers, slots, rounds); !ok || !slices.Equal(got, want) {
		t.Errorf("Contend(%s, %d, %d): %d and %t, not %d", textOfAskers(askers), slots, rounds, got, ok, want)
	}
}

func checkNoContend(t *testing.T, askers []impl.Asker, slots, rounds int) {
	t.Helper()
	if got, ok := impl.Contend(askers, slots, rounds); ok || len(got) != 0 {
		t.Errorf("Contend(%s, %d, %d): %d and %t", textOfAskers(askers), slots, rounds, got, ok)
	}
}

// P16: known askers.
func TestKnownContends(t *testing.T) {
	for _, c := range []struct {
		askers        string
		slots, rounds int
		want          string
	}{
		{"5 2 1/1 0/9/2", 4, 3, "1 1 -1 0"},
		// One alone.
		{"0", 1, 1, "0"},
		{"7", 4, 1, "0"},
		{"1000", 16, 60, "0"},
		{"7 7 7", 4, 3, "0"},
		// Without rounds, or coins.
		{"7", 4, 0, "-1"},
		{"1/2/3", 4, 0, "-1 -1 -1"},
		{"", 4, 60, "-1"},
		{"//", 4, 60, "-1 -1 -1"},
		{"/3", 4, 1, "-1 0"},
		{"3//3 1", 4, 2, "-1 -1 1"},
		// In one slot, by the coins modulo slots.
		{"1/1", 4, 1, "-1 -1"},
		{"1/5", 4, 1, "-1 -1"},
		{"1/5", 5, 1, "0 0"},
		{"1/2", 4, 1, "0 0"},
		{"1/2", 1, 1, "-1 -1"},
		{"0/16/1000/8", 16, 1, "-1 -1 -1 -1"},
		{"0/15/1000/7", 16, 1, "0 0 0 0"},
		{"3/3/3", 4, 1, "-1 -1 -1"},
		{"3/3/2", 4, 1, "-1 -1 0"},
		{"3/2/3", 4, 1, "-1 0 -1"},
		{"0/1/2/3", 4, 1, "0 0 0 0"},
		{"0/1/2/3/0", 4, 1, "-1 0 0 0 -1"},
		// Round by round.
		{"1 1/1 2", 4, 1, "-1 -1"},
		{"1 1/1 2", 4, 2, "1 1"},
		{"1 2 3/1 2 3", 4, 3, "-1 -1"},
		{"1 2 3/1 2 3/1 2 2", 4, 3, "-1 -1 2"},
		{"1 2 0/1 2 1", 4, 3, "2 2"},
		{"1 2 0/1 2 1", 4, 2, "-1 -1"},
		{"1 2 0/1 2 1", 4, 60, "2 2"},
		// Who is heard asks no more.
		{"0 3/1 3/1 2", 4, 2, "0 1 1"},
		{"0 0 0/1 0/1 1", 4, 3, "0 1 1"},
		{"0 3 3/1 1 3/1 1 2", 4, 3, "0 2 2"},
		{"1 0 3/1 1 3/1 1 2", 4, 3, "1 2 2"},
		// Coins that are used up: one of two that met is alone then.
		{"1/1 1", 4, 2, "-1 1"},
		{"1 2/1 2 2", 4, 3, "-1 2"},
		{"1 2/1 2 2", 4, 2, "-1 -1"},
		{"1/1/2 2", 4, 2, "-1 -1 0"},
		{"1/1", 4, 60, "-1 -1"},
		// Those who met all take their next coin, whether others were heard or not.
		{"1 2 3/2/1 2 1/3 0", 4, 3, "2 0 2 0"},
	} {
		askers, want := askersOf(c.askers), numbersOf(c.want)
		checkContend(t, askers, c.slots, c.rounds, want)
		if told := contendByPairs(askers, c.slots, c.rounds); !slices.Equal(told, want) {
			t.Errorf("the second telling of %v is wrong: %d", c, told)
		}
	}
}

func drawAskers(r *drawn, n, most, coins int) []impl.Asker {
	askers := make([]impl.Asker, n)
	for i := range askers {
		for range r.below(most + 1) {
			askers[i].Coins = append(askers[i].Coins, r.below(coins))
		}
	}
	return askers
}

// P16: three askers with all coins, two a piece or fewer.
func TestContendOfAllSmallAskers(t *testing.T) {
	var each [][]int
	for n := range 3 {
		everyMeasures(1, n, 3, func(lists [][]int) {
			coins := slices.Clone(lists[0])
			for i := range coins {
				coins[i] = -coins[i]
			}
			each = append(each, coins)
		})
	}
	for _, a := range each {
		for _, b := range each {
			for _, c := range each {
				askers := []impl.Asker{{Coins: a}, {Coins: b}, {Coins: c}}
				for slots := 1; slots <= 3; slots++ {
					for rounds := range 4 {
						checkContend(t, askers, slots, rounds, contendByPairs(askers, slots, rounds))
					}
				}
			}
		}
	}
}

// P16: drawn askers; who is heard was alone in its slot, and who was alone is
// heard.
func TestDrawnContends(t *testing.T) {
	r := drawn(1606)
	late := 0
	for range 6000 {
		askers := drawAskers(&r, 1+r.below(40), 70, 1+r.below(1001))
		slots, rounds := 1+r.below(16), r.below(61)
		want := contendByPairs(askers, slots, rounds)
		heard, ok := impl.Contend(askers, slots, rounds)
		if !ok || !slices.Equal(heard, want) {
			t.Fatalf("Contend(%s, %d, %d): %d and %t, not %d", textOfAskers(askers), slots, rounds, heard, ok, want)
		}
		for round := range rounds {
			who := map[int][]int{}
			for i, asker := range askers {
				if asksAt(asker, heard[i], round) {
					slot := asker.Coins[round] % slots
					who[slot] = append(who[slot], i)
				}
			}
			for _, list := range who {
				for _, i := range list {
					if (heard[i] == round) != (len(list) == 1) {
						t.Fatalf("Contend(%s, %d, %d): %d is one of %d in its slot in round %d: %d", textOfAskers(askers), slots, rounds, i, list, round, heard)
					}
				}
			}
		}
		late = max(late, slices.Max(heard))
	}
	if late < 50 {
		t.Errorf("no one is heard behind round %d", late)
	}
}

// P16: what is heard in more rounds begins with what is heard in fewer.
func TestContendGoesOn(t *testing.T) {
	r := drawn(1607)
	for range 60 {
		askers := drawAskers(&r, 1+r.below(40), 70, 1001)
		slots := 1 + r.below(16)
		all, _ := impl.Contend(askers, slots, 60)
		for rounds := range 61 {
			want := slices.Clone(all)
			for i, round := range want {
				if round >= rounds {
					want[i] = -1
				}
			}
			checkContend(t, askers, slots, rounds, want)
		}
	}
}

// P16: the order of askers plays no part in when each is heard.
func TestContendInEveryOrder(t *testing.T) {
	places := []int{0, 1, 2, 3, 4, 5}
	askers := askersOf("5 2 1/1 0/9/2/13 4 1/6 0 7")
	want := contendByPairs(askers, 4, 3)
	everyOrder(places, func(order []int) {
		var turned []impl.Asker
		var heard []int
		for _, place := range order {
			turned = append(turned, askers[place])
			heard = append(heard, want[place])
		}
		checkContend(t, turned, 4, 3, heard)
	})
}

// P16, P21: 1 to 40 askers.
func TestContendSizes(t *testing.T) {
	r := drawn(1608)
	for n := range 100 {
		askers := drawAskers(&r, n, 6, 1001)
		for _, rounds := range []int{0, 1, 5, 60} {
			if n >= 1 && n <= 40 {
				checkContend(t, askers, 16, rounds, contendByPairs(askers, 16, rounds))
				checkContend(t, make([]impl.Asker, n), 16, rounds, slices.Repeat([]int{-1}, n))
			} else {
				checkNoContend(t, askers, 16, rounds)
				checkNoContend(t, make([]impl.Asker, n), 16, rounds)
			}
		}
	}
	checkNoContend(t, nil, 1, 0)
}

// P16, P21: 1 to 16 slots, 0 to 60 rounds, also where they play no part.
func TestContendNumbers(t *testing.T) {
	r := drawn(1609)
	for _, askers := range [][]impl.Asker{askersOf(""), askersOf("7"), askersOf("1 2 0/1 2 1"), drawAskers(&r, 40, 62, 1001)} {
		for slots := 1; slots <= 16; slots++ {
			for rounds := range 61 {
				checkContend(t, askers, slots, rounds, contendByPairs(askers, slots, rounds))
			}
			for _, wrong := range outside(0, 60) {
				checkNoContend(t, askers, slots, wrong)
			}
		}
		for _, wrong := range outside(1, 16) {
			for _, rounds := range []int{-1, 0, 1, 60, 61} {
				checkNoContend(t, askers, wrong, rounds)
			}
		}
	}
}

// meeting are two askers who meet in every round but the last, and are heard
// then.
func meeting(rounds int) []impl.Asker {
	coins := slices.Repeat([]int{3}, rounds)
	other := slices.Clone(coins)
	other[rounds-1] = 4
	return []impl.Asker{{Coins: coins}, {Coins: other}}
}

// P16: a round for each coin, up to the last of 60; more coins than rounds are
// none too many.
func TestContendUpToTheLastRound(t *testing.T) {
	for rounds := 1; rounds <= 60; rounds++ {
		checkContend(t, meeting(rounds), 16, rounds, []int{rounds - 1, rounds - 1})
		checkContend(t, meeting(rounds), 16, rounds-1, []int{-1, -1})
	}
	checkContend(t, meeting(61), 16, 60, []int{-1, -1})
	checkContend(t, meeting(20000), 16, 60, []int{-1, -1})
}

// P16, P21: each coin in 0 .. 1000, those of one who was heard and those that no
// round comes to as well.
func TestContendCoins(t *testing.T) {
	askers := askersOf("5 2 1 8/1 0//2 700 30/9 9 9 9 9")
	for i, asker := range askers {
		for place := range asker.Coins {
			for _, right := range []int{0, 1, 999, 1000} {
				other := withCoin(askers, i, place, right)
				for slots := 1; slots <= 16; slots++ {
					checkContend(t, other, slots, 4, contendByPairs(other, slots, 4))
				}
			}
			for _, wrong := range outside(0, 1000) {
				for _, rounds := range []int{0, 1, 3, 60} {
					checkNoContend(t, withCoin(askers, i, place, wrong), 4, rounds)
				}
			}
		}
	}
	many := slices.Repeat([]impl.Asker{{Coins: make([]int, 100)}}, 40)
	for i := range many {
		for place := range 100 {
			checkNoContend(t, withCoin(many, i, place, -1), 4, 60)
			checkNoContend(t, withCoin(many, i, place, 1001), 4, 0)
		}
	}
}
