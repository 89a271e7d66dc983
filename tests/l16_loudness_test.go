package tests

import (
	"slices"
	"sort"
	"testing"

	"loop.example/g00052/impl"
)

// besideOf is what station i is heard among: the noise and all but itself.
func besideOf(gains [][]int, noise int, loud []int, i int) int {
	sum := noise
	for k := range loud {
		sum += gains[i][k] * loud[k]
	}
	return sum - gains[i][i]*loud[i]
}

// secondLoudness looks for the least loudness with which each is heard as
// wanted, instead of dividing.
func secondLoudness(gains [][]int, noise, want, steps int) []int {
	loud := slices.Repeat([]int{1}, len(gains))
	for range steps {
		ahead := slices.Clone(loud)
		for i := range gains {
			needed := want * besideOf(gains, noise, ahead, i)
			loud[i] = 1 + sort.Search(999999, func(n int) bool { return (1+n)*gains[i][i] >= needed })
		}
	}
	return loud
}

func checkLoudness(t *testing.T, gains [][]int, noise, want, steps int, loud []int) {
	t.Helper()
	if got, ok := impl.Loudness(gains, noise, want, steps); !ok || !slices.Equal(got, loud) {
		t.Errorf("Loudness(%d, %d, %d, %d): %d and %t, not %d", gains, noise, want, steps, got, ok, loud)
	}
}

func checkNoLoudness(t *testing.T, gains [][]int, noise, want, steps int) {
	t.Helper()
	if got, ok := impl.Loudness(gains, noise, want, steps); ok || len(got) != 0 {
		t.Errorf("Loudness(%d, %d, %d, %d): %d and %t", gains, noise, want, steps, got, ok)
	}
}

// P16: known stations.
func TestKnownLoudness(t *testing.T) {
	for _, c := range []struct {
		gains              string
		noise, want, steps int
		loud               string
	}{
		// Without steps all are 1.
		{"1", 1000, 100, 0, "1"},
		{"10 1; 2 10", 5, 4, 0, "1 1"},
		{"1 1000 1000; 1000 1 1000; 1000 1000 1", 1000, 100, 0, "1 1 1"},
		// Step by step: 4 times 6 and 7, then 8 and 11, by 10.
		{"10 1; 2 10", 5, 4, 1, "3 3"},
		{"10 1; 2 10", 5, 4, 2, "4 5"},
		{"10 1; 2 10", 5, 4, 3, "4 6"},
		{"10 1; 2 10", 5, 4, 4, "5 6"},
		{"10 1; 2 10", 5, 4, 5, "5 6"},
		{"10 1; 2 10", 5, 4, 50, "5 6"},
		// Up to the next whole number, and evenly.
		{"4", 8, 1, 1, "2"},
		{"4", 9, 1, 1, "3"},
		{"4", 11, 1, 1, "3"},
		{"4", 12, 1, 1, "3"},
		{"4", 7, 1, 1, "2"},
		{"7", 5, 7, 1, "5"},
		{"7", 5, 4, 1, "3"},
		{"7", 7, 3, 1, "3"},
		{"3", 10, 10, 1, "34"},
		{"3", 9, 10, 1, "30"},
		// At least 1.
		{"1000", 1, 1, 1, "1"},
		{"1000", 1, 1, 50, "1"},
		{"1000", 1000, 1, 1, "1"},
		{"999", 1000, 1, 1, "2"},
		{"1000", 501, 2, 1, "2"},
		{"1000 0; 0 1000", 1, 1, 7, "1 1"},
		// Alone, as loud as may be.
		{"1", 1000, 100, 1, "100000"},
		{"1", 1000, 100, 50, "100000"},
		{"1000", 1000, 100, 50, "100"},
		// A station's own loudness is none of what it is heard among.
		{"1000 0; 0 1", 1, 1, 2, "1 1"},
		{"5 0; 0 5", 5, 1, 9, "1 1"},
		// Row i says how well i is heard, not who hears it.
		{"1 2; 0 1", 1, 1, 1, "3 1"},
		{"1 0; 2 1", 1, 1, 1, "1 3"},
		{"1 2 0; 0 1 2; 0 0 1", 1, 1, 1, "3 3 1"},
		{"1 2 0; 0 1 2; 0 0 1", 1, 1, 2, "7 3 1"},
		// All are reckoned from those ahead.
		{"1 1; 1 1", 1, 1, 1, "2 2"},
		{"1 1; 1 1", 1, 1, 2, "3 3"},
		{"1 1; 1 1", 1, 1, 49, "50 50"},
		{"1 1; 1 1", 1, 1, 50, "51 51"},
		{"1 1 0; 0 1 1; 1 0 1", 2, 1, 3, "7 7 7"},
		{"1 10; 1 1", 1, 1, 1, "11 2"},
		{"1 10; 1 1", 1, 1, 2, "21 12"},
		{"1 10; 1 1", 1, 1, 3, "121 22"},
		// At most 1000000, and just that.
		{"1 1000; 1000 1", 1000, 100, 1, "200000 200000"},
		{"1 1000; 1000 1", 1000, 100, 2, "1000000 1000000"},
		{"1 1000; 1000 1", 1000, 100, 50, "1000000 1000000"},
		{"1 1000 0; 0 1 998; 0 0 1", 1, 1, 1, "1001 999 1"},
		{"1 1000 0; 0 1 998; 0 0 1", 1, 1, 2, "999001 999 1"},
		{"1 1000 0; 0 1 999; 0 0 1", 1, 1, 2, "1000000 1000 1"}, // 1000001
		{"4 1000 0; 0 1 998; 0 0 1", 1, 2, 2, "999001 3994 2"},  // twice 1998001, by 4
		{"1 999 0; 0 1 999; 0 0 1", 1, 1, 2, "999001 1000 1"},
		{"1 999 0; 0 1 999; 0 0 1", 1000, 1, 2, "1000000 1000000 1000"},
	} {
		gains, loud := rowsOf(c.gains), numbersOf(c.loud)
		checkLoudness(t, gains, c.noise, c.want, c.steps, loud)
		if told := secondLoudness(gains, c.noise, c.want, c.steps); !slices.Equal(told, loud) {
			t.Errorf("the second telling of %v is wrong: %d", c, told)
		}
	}
}

// manyGains are so many stations, each heard alike well of itself and of each
// other one.
func manyGains(n, own, other int) [][]int {
	var gains [][]int
	for i := range n {
		row := slices.Repeat([]int{other}, n)
		row[i] = own
		gains = append(gains, row)
	}
	return gains
}

// P16, P21: 1000000 is met just so at the first step by ten stations with the
// greatest noise and want, and passed by eleven.
func TestLoudnessMost(t *testing.T) {
	for n, want := range []int{100000, 200000, 300000, 400000, 500000, 600000, 700000, 800000, 900000, 1000000, 1000000, 1000000} {
		checkLoudness(t, manyGains(n+1, 1, 1000), 1000, 100, 1, slices.Repeat([]int{want}, n+1))
		if n > 0 {
			checkLoudness(t, manyGains(n+1, 1, 1000), 1000, 100, 2, slices.Repeat([]int{1000000}, n+1))
			checkLoudness(t, manyGains(n+1, 1, 1000), 1000, 100, 50, slices.Repeat([]int{1000000}, n+1))
		}
	}
	gains := manyGains(10, 1, 1000)
	gains[0][9] = 999
	checkLoudness(t, gains, 1000, 100, 1, append([]int{999900}, slices.Repeat([]int{1000000}, 9)...))
}

func drawGains(r *drawn, n, own, other int) [][]int {
	var gains [][]int
	for i := range n {
		row := make([]int, n)
		for k := range row {
			row[k] = r.below(other + 1)
		}
		row[i] = 1 + r.below(own)
		gains = append(gains, row)
	}
	return gains
}

// P16: drawn stations; loudness never falls from step to step, and where it
// stays each is heard as wanted or as loud as may be.
func TestDrawnLoudness(t *testing.T) {
	r := drawn(1612)
	still, most := 0, 0
	for range 400 {
		gains := drawGains(&r, 1+r.below(12), 1+r.below(1000), r.below(1+[]int{1, 3, 30, 1000}[r.below(4)]))
		noise, want := 1+r.below(1000), 1+r.below(1+r.below(100))
		ahead := slices.Repeat([]int{1}, len(gains))
		for steps := range 51 {
			loud, ok := impl.Loudness(gains, noise, want, steps)
			if second := secondLoudness(gains, noise, want, steps); !ok || !slices.Equal(loud, second) {
				t.Fatalf("Loudness(%d, %d, %d, %d): %d and %t, not %d", gains, noise, want, steps, loud, ok, second)
			}
			for i := range loud {
				if loud[i] < ahead[i] {
					t.Errorf("Loudness(%d, %d, %d, %d): %d falls from %d", gains, noise, want, steps, loud, ahead)
				}
				if loud[i] == 1000000 {
					most++
				} else if steps > 0 && slices.Equal(loud, ahead) && loud[i]*gains[i][i] < want*besideOf(gains, noise, loud, i) {
					t.Errorf("Loudness(%d, %d, %d, %d): %d is not heard as wanted", gains, noise, want, steps, loud)
				}
			}
			if steps > 0 && slices.Equal(loud, ahead) {
				still++
			}
			ahead = loud
		}
	}
	if still < 100 || most < 100 {
		t.Error("too few that stay, or are as loud as may be", still, most)
	}
}

// P16, P21: 1 to MaxRadio stations.
func TestLoudnessSizes(t *testing.T) {
	r := drawn(1613)
	for n := range 40 {
		for _, steps := range []int{0, 1, 50} {
			gains := drawGains(&r, n, 1000, 10)
			if n >= 1 && n <= 12 {
				checkLoudness(t, gains, 7, 3, steps, secondLoudness(gains, 7, 3, steps))
			} else {
				checkNoLoudness(t, gains, 7, 3, steps)
			}
		}
	}
	checkNoLoudness(t, [][]int{}, 1, 1, 0)
	checkNoLoudness(t, make([][]int, 3), 1, 1, 0)
}

// P16: rows that are not as long as there are stations.
func TestLoudnessOfUnlikeRows(t *testing.T) {
	for n := 1; n <= 12; n++ {
		for i := range n {
			for _, length := range []int{0, 1, i, n - 1, n + 1, 12, 13} {
				if length == n {
					continue
				}
				gains := manyGains(n, 5, 5)
				gains[i] = slices.Repeat([]int{5}, length)
				checkNoLoudness(t, gains, 1, 1, 0)
				checkNoLoudness(t, gains, 1, 1, 2)
			}
		}
		// All rows alike, but too long or too short.
		checkNoLoudness(t, manyGains(13, 5, 5)[:n], 1, 1, 1)
		checkNoLoudness(t, slices.Repeat([][]int{slices.Repeat([]int{5}, n-1)}, n), 1, 1, 1)
	}
}

// P16, P21: each gain in 0 .. 1000, one's own at least 1.
func TestLoudnessGains(t *testing.T) {
	for _, n := range []int{1, 2, 3, 11, 12} {
		gains := manyGains(n, 50, 2)
		for i := range n {
			for k := range n {
				for _, right := range []int{0, 1, 2, 999, 1000} {
					other := withNumber(gains, i, k, right)
					for _, steps := range []int{0, 1, 3} {
						if i == k && right == 0 {
							checkNoLoudness(t, other, 3, 2, steps)
						} else {
							checkLoudness(t, other, 3, 2, steps, secondLoudness(other, 3, 2, steps))
						}
					}
				}
				for _, wrong := range outside(0, 1000) {
					checkNoLoudness(t, withNumber(gains, i, k, wrong), 3, 2, 0)
					checkNoLoudness(t, withNumber(gains, i, k, wrong), 3, 2, 3)
				}
			}
		}
	}
}

// P16, P21: a noise in 1 .. 1000, a want in 1 .. 100, 0 to 50 steps, also where
// they play no part.
func TestLoudnessNumbers(t *testing.T) {
	for _, gains := range [][][]int{rowsOf("1"), rowsOf("10 1; 2 10"), manyGains(12, 1000, 3)} {
		for _, noise := range []int{1, 2, 3, 499, 999, 1000} {
			for _, want := range []int{1, 2, 50, 99, 100} {
				for steps := range 51 {
					checkLoudness(t, gains, noise, want, steps, secondLoudness(gains, noise, want, steps))
				}
				for _, wrong := range outside(0, 50) {
					checkNoLoudness(t, gains, noise, want, wrong)
				}
			}
			for _, wrong := range outside(1, 100) {
				for _, steps := range []int{-1, 0, 1, 50, 51} {
					checkNoLoudness(t, gains, noise, wrong, steps)
				}
			}
		}
		for _, wrong := range outside(1, 1000) {
			for _, want := range []int{0, 1, 100, 101} {
				for _, steps := range []int{-1, 0, 1, 50, 51} {
					checkNoLoudness(t, gains, wrong, want, steps)
				}
			}
		}
	}
}
