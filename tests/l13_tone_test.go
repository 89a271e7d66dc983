package tests

import (
	"slices"
	"testing"

	"loop.example/g00052/impl"
)

var (
	stepsOfRows    = []int{12, 14, 16, 18}
	stepsOfColumns = []int{22, 26, 30, 34}
)

// nearestOf is the one of three whole numbers around n by Whole that lies
// nearest to it, the greater one of two.
func nearestOf(n int) int {
	best := n/impl.Whole - 1
	for _, other := range []int{best + 1, best + 2} {
		if sizeOf(n-other*impl.Whole) <= sizeOf(n-best*impl.Whole) {
			best = other
		}
	}
	return best
}

// secondTone tells a digit level by level, from the table of waves.
func secondTone(digit int, size int, phase int, n int) []int {
	var levels []int
	for at := phase; at < phase+n; at++ {
		row := secondWave(at * stepsOfRows[digit>>2])
		column := secondWave(at * stepsOfColumns[digit&3])
		levels = append(levels, nearestOf(size*row+size*column))
	}
	return levels
}

func checkTone(t *testing.T, digit int, size int, phase int, n int, want []int) {
	t.Helper()
	if got, ok := impl.Tone13(digit, size, phase, n); !ok || !slices.Equal(got, want) {
		t.Errorf("Tone13(%d, %d, %d, %d): %v and %t, not %v", digit, size, phase, n, got, ok, want)
	}
}

func checkNoTone(t *testing.T, digit int, size int, phase int, n int) {
	t.Helper()
	if got, ok := impl.Tone13(digit, size, phase, n); ok || len(got) != 0 {
		t.Errorf("Tone13(%d, %d, %d, %d): %d levels and %t", digit, size, phase, n, len(got), ok)
	}
}

// P13: known tones, worked out by hand.
func TestKnownTones(t *testing.T) {
	for _, c := range []struct {
		digit int
		size  int
		phase int
		want  []int
	}{
		{0, 1000, 0, []int{2000, 1815, 1303, 585}},
		{0, 1, 0, []int{2, 2, 1, 1, 0, -1, -1, -1, -1, -1}},
		{0, 0, 0, []int{0, 0, 0, 0}},
		{0, 16000, 0, []int{32000}},
		{15, 16000, 0, []int{32000}},
		{6, 16000, 64, []int{-32000}},
		{12, 1, 192, []int{-2}},
		{10, 16000, 64, []int{0}},
	} {
		checkTone(t, c.digit, c.size, c.phase, len(c.want), c.want)
		if got := secondTone(c.digit, c.size, c.phase, len(c.want)); !slices.Equal(got, c.want) {
			t.Errorf("the second telling of %v is wrong: %v", c, got)
		}
	}
}

// P13: how levels are rounded, told where what is told lies nearest to the
// middle of two. Just there it never lies: both waves together are some Wholes
// or halve at most 7 times, a size at most 13 times, and the middle of two
// Wholes does 29 times.
func TestRoundedTones(t *testing.T) {
	above, below := 0, 0
	for digit := range 16 {
		for at := range 256 {
			both := secondWave(at*stepsOfRows[digit/4]) + secondWave(at*stepsOfColumns[digit%4])
			if both%impl.Whole != 0 && both%256 == 0 {
				t.Fatalf("digit %d at %d: %d halves more than 7 times", digit, at, both)
			}
			for size := 1; size <= 16000; size += 1 + size/64 {
				rest := ((size*both)%impl.Whole + impl.Whole) % impl.Whole
				if sizeOf(rest-impl.Whole/2) > impl.Whole/256 {
					continue
				}
				checkTone(t, digit, size, at, 1, []int{nearestOf(size * both)})
				if both > 0 {
					above++
				} else {
					below++
				}
			}
		}
	}
	if above < 1000 || below < 1000 {
		t.Errorf("only %d above and %d below 0", above, below)
	}
}

// P13: each digit at each phase, with sizes from nothing to the greatest.
func TestTonesOfEveryPhase(t *testing.T) {
	for digit := range 16 {
		for _, size := range []int{0, 1, 2, 15, 16, 199, 200, 201, 1000, 8191, 15999, 16000} {
			circle := secondTone(digit, size, 0, 512)
			for phase := range 256 {
				checkTone(t, digit, size, phase, 256, circle[phase:phase+256])
			}
		}
	}
}

// P13: each size, at one phase and then another.
func TestTonesOfEverySize(t *testing.T) {
	for size := range 16001 {
		checkTone(t, size%16, size, size*7%256, 40, secondTone(size%16, size, size*7%256, 40))
	}
}

// P13: many drawn tones.
func TestDrawnTones(t *testing.T) {
	r := drawn(1301)
	for range 3000 {
		digit, size, phase, n := r.below(16), r.below(16001), r.below(256), r.below(1025)
		checkTone(t, digit, size, phase, n, secondTone(digit, size, phase, n))
	}
}

// P13: a tone goes round with its circle, and one of a greater phase is what
// another one is further on.
func TestTonesGoOn(t *testing.T) {
	for digit := range 16 {
		for _, phase := range []int{0, 1, 100, 255} {
			long, _ := impl.Tone13(digit, 5000, phase, 1024)
			for i, level := range long[256:] {
				if level != long[i] {
					t.Fatalf("digit %d, phase %d: level %d is %d, not %d", digit, phase, i+256, level, long[i])
				}
			}
			later, _ := impl.Tone13(digit, 5000, (phase+77)%256, 900)
			if !slices.Equal(later, long[77:977]) {
				t.Errorf("digit %d, phase %d: not the same 77 levels on", digit, phase)
			}
		}
	}
}

// P13: all levels of a tone are levels.
func TestTonesAreLevels(t *testing.T) {
	for digit := range 16 {
		levels, _ := impl.Tone13(digit, 16000, 0, 256)
		if slices.Max(levels) != 32000 || slices.Min(levels) < -32000 {
			t.Errorf("digit %d: from %d to %d", digit, slices.Min(levels), slices.Max(levels))
		}
	}
}

// P21: MaxTone levels and one more, none and one fewer; likewise the digit,
// the size and the phase.
func TestToneLimits(t *testing.T) {
	for n := range 1025 {
		checkTone(t, 7, 900, 3, n, secondTone(7, 900, 3, n))
	}
	for _, n := range append([]int{-1, -2, -1024, 1025, 1026, 2048}, farNumbers...) {
		checkNoTone(t, 7, 900, 3, n)
	}
	for _, digit := range append([]int{-1, -2, -16, 16, 17, 32, 49}, farNumbers...) {
		checkNoTone(t, digit, 900, 3, 9)
		checkNoTone(t, digit, 0, 0, 0)
	}
	for _, size := range append([]int{-1, -2, -200, -16000, 16001, 16002, 32000, 32767}, farNumbers...) {
		checkNoTone(t, 7, size, 3, 9)
		checkNoTone(t, 0, size, 0, 0)
	}
	for _, phase := range append([]int{-1, -2, -255, -256, 256, 257, 511, 512}, farNumbers...) {
		checkNoTone(t, 7, 900, phase, 9)
		checkNoTone(t, 0, 0, phase, 0)
	}
	checkTone(t, 0, 0, 0, 0, nil)
	checkTone(t, 15, 16000, 255, 1024, secondTone(15, 16000, 255, 1024))
	checkNoTone(t, -1, -1, -1, -1)
	checkNoTone(t, 16, 16001, 256, 1025)
}

// P13: each argument alone at and beside its ends, all others right.
func TestToneEnds(t *testing.T) {
	most := []int{15, 16000, 255, 1024}
	for at, greatest := range most {
		for _, n := range endsAround(0, greatest) {
			args := []int{5, 700, 9, 12}
			args[at] = n
			if n >= 0 && n <= greatest {
				checkTone(t, args[0], args[1], args[2], args[3], secondTone(args[0], args[1], args[2], args[3]))
			} else {
				checkNoTone(t, args[0], args[1], args[2], args[3])
			}
		}
	}
}
