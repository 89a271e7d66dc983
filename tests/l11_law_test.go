package tests

import (
	"math"
	"slices"
	"testing"

	"loop.example/g00052/impl"
)

// farNumbers are no level, no number of the law, no step and no number of four
// bits, though the lower bytes of some would be one.
var farNumbers = []int{
	1 << 16, -(1 << 16), 1<<16 + 5, -(1 << 16) - 5, 1<<16 - 1, 65534, -65534, 100000, -100000,
	1 << 32, -(1 << 32), 1<<32 + 5, -(1 << 32) + 5, math.MaxInt32, math.MinInt32,
	math.MaxInt, math.MaxInt - 1, math.MinInt, math.MinInt + 1, math.MinInt + 5, 1 << 62, -(1 << 62), 1 << 60,
}

// noLevels are one past each end, and far off.
func noLevels() []int { return append([]int{32768, -32768, 32769, -32769}, farNumbers...) }

func sizeOf(n int) int { return max(n, -n) }

// levelsWith are n levels, with another one at a place.
func levelsWith(n int, place int, level int) []int {
	list := make([]int, n)
	for i := range list {
		list[i] = i*73%2001 - 1000
	}
	list[place] = level
	return list
}

func TestVoiceConstants(t *testing.T) {
	if impl.FrameLevels != 30 || impl.MaxLevels != 300 {
		t.Error(impl.FrameLevels, impl.MaxLevels)
	}
}

// P11, P21: how many levels a voice may have.
func TestVoiceSizes(t *testing.T) {
	for n, want := range map[int]bool{0: true, 1: true, 29: true, 30: true, 31: true, 299: true, 300: true, 301: false, 302: false, 600: false, 5000: false} {
		for _, level := range []int{0, 8, 32767, -32767} {
			if got := impl.VoiceOk(slices.Repeat([]int{level}, n)); got != want {
				t.Errorf("%d levels of %d: %v", n, level, got)
			}
		}
	}
	if !impl.VoiceOk(nil) || !impl.VoiceOk([]int{}) {
		t.Error("no levels")
	}
}

// P11, P21: the ends of levels, at every place.
func TestVoiceLevels(t *testing.T) {
	for _, n := range []int{1, 2, 3, 30, 300} {
		for place := range n {
			for _, level := range []int{32767, -32767, 32766, -32766, 0, 1, -1} {
				if !impl.VoiceOk(levelsWith(n, place, level)) {
					t.Errorf("%d at %d of %d: not ok", level, place, n)
				}
			}
			for _, level := range noLevels() {
				if impl.VoiceOk(levelsWith(n, place, level)) {
					t.Errorf("%d at %d of %d: ok", level, place, n)
				}
			}
		}
	}
}

// lawByRises tells the levels of all numbers by how far each lies above the one
// ahead of it: 16 up to e 1, then twice as far with each e, and between two e
// the middle of what it is in the one and in the other.
func lawByRises() [256]int {
	var levels [256]int
	level, rise := 8, 16
	for b := range 128 {
		if b > 0 && b%16 == 0 && b >= 32 {
			level += rise + rise/2
			rise *= 2
		} else if b > 0 {
			level += rise
		}
		levels[b], levels[b+128] = level, -level
	}
	return levels
}

// P11: what each number tells.
func TestFromLawOfEveryNumber(t *testing.T) {
	for b, want := range lawByRises() {
		if got := impl.FromLaw(b); got != want {
			t.Errorf("FromLaw(%d): %d, not %d", b, got, want)
		}
	}
}

func TestFromLawOfKnownNumbers(t *testing.T) {
	for _, c := range [][2]int{
		{0, 8}, {1, 24}, {2, 40}, {14, 232}, {15, 248},
		{16, 264}, {17, 280}, {31, 504}, {32, 528}, {33, 560}, {47, 1008},
		{48, 1056}, {63, 2016}, {64, 2112}, {79, 4032}, {80, 4224}, {95, 8064}, {96, 8448},
		{111, 16128}, {112, 16896}, {113, 17920}, {126, 31232}, {127, 32256},
		{128, -8}, {129, -24}, {143, -248}, {144, -264}, {159, -504}, {160, -528}, {240, -16896}, {254, -31232}, {255, -32256},
	} {
		if got := impl.FromLaw(c[0]); got != c[1] {
			t.Errorf("FromLaw(%d): %d, not %d", c[0], got, c[1])
		}
	}
}

// P21: one past each end, and far off.
func TestFromLawOfNoNumber(t *testing.T) {
	for _, b := range append([]int{-1, -2, -128, -129, -255, -256, 256, 257, 383, 384, 511, 512}, farNumbers...) {
		if got := impl.FromLaw(b); got != 0 {
			t.Errorf("FromLaw(%d): %d", b, got)
		}
	}
}

// P11: the law's numbers come back.
func TestLawNumbersComeBack(t *testing.T) {
	for b := range 256 {
		if got := impl.ToLaw(impl.FromLaw(b)); got != b {
			t.Errorf("%d comes back as %d", b, got)
		}
	}
}

// lawByDistance asks every number for its distance, then for its size, then for
// its sign.
func lawByDistance(levels *[256]int, level int) int {
	best := 0
	for b := range levels {
		near, least := sizeOf(levels[b]-level), sizeOf(levels[best]-level)
		if near < least || near == least && sizeOf(levels[b]) < sizeOf(levels[best]) {
			best = b
		}
	}
	return best
}

// P11: the nearest number, and levels that come back nearly: off by no more
// than a 16th of the level, and 8.
func TestToLawOfEveryLevel(t *testing.T) {
	levels := lawByRises()
	for level := -32767; level <= 32767; level++ {
		got := impl.ToLaw(level)
		if want := lawByDistance(&levels, level); got != want {
			t.Fatalf("ToLaw(%d): %d, not %d", level, got, want)
		}
		if off := sizeOf(impl.FromLaw(got) - level); 16*off > sizeOf(level)+16*8 {
			t.Fatalf("%d comes back off by %d", level, off)
		}
	}
}

// P11: just between two numbers' levels the lesser size is taken, on either
// side; one beside it, the nearer one.
func TestToLawJustBetweenTwo(t *testing.T) {
	levels := lawByRises()
	for b := range 127 {
		between := (levels[b] + levels[b+1]) / 2
		if between-levels[b] != levels[b+1]-between {
			t.Fatalf("nothing lies just between %d and %d", levels[b], levels[b+1])
		}
		for by, want := range map[int]int{-1: b, 0: b, 1: b + 1} {
			if got := impl.ToLaw(between + by); got != want {
				t.Errorf("ToLaw(%d): %d, not %d", between+by, got, want)
			}
			if got := impl.ToLaw(-between - by); got != want+128 {
				t.Errorf("ToLaw(%d): %d, not %d", -between-by, got, want+128)
			}
		}
	}
}

func TestToLawOfKnownLevels(t *testing.T) {
	for _, c := range [][2]int{
		{0, 0}, {1, 0}, {-1, 128}, {7, 0}, {8, 0}, {9, 0}, {-8, 128},
		{15, 0}, {16, 0}, {17, 1}, {-15, 128}, {-16, 128}, {-17, 129},
		{248, 15}, {255, 15}, {256, 15}, {257, 16}, {264, 16}, {-256, 143}, {-257, 144},
		{504, 31}, {515, 31}, {516, 31}, {517, 32}, {-516, 159}, {-517, 160},
		{16511, 111}, {16512, 111}, {16513, 112}, {-16512, 239}, {-16513, 240},
		{31743, 126}, {31744, 126}, {31745, 127}, {-31744, 254}, {-31745, 255},
		{32255, 127}, {32256, 127}, {32257, 127}, {32766, 127}, {32767, 127}, {-32766, 255}, {-32767, 255},
	} {
		if got := impl.ToLaw(c[0]); got != c[1] {
			t.Errorf("ToLaw(%d): %d, not %d", c[0], got, c[1])
		}
	}
}

// P21: one past each end, and far off.
func TestToLawOfNoLevel(t *testing.T) {
	for _, level := range noLevels() {
		if got := impl.ToLaw(level); got != 0 {
			t.Errorf("ToLaw(%d): %d", level, got)
		}
	}
}
