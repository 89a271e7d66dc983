package tests

import (
	"math/big"
	"testing"

	"loop.example/g00052/impl"
)

// secondHop works with numbers of any size, and with both bytes of x apart.
func secondHop(seed, frame, channels int) int {
	x := new(big.Int).Mul(big.NewInt(40503), big.NewInt(int64(frame)))
	x.Add(x, big.NewInt(int64(seed)))
	x.Mod(x, big.NewInt(65536))
	high, low := x.Int64()/256, x.Int64()%256
	folded := big.NewInt(high*256 + (low | high) - (low & high))
	folded.Mul(folded, big.NewInt(int64(channels)))
	return int(folded.Div(folded, big.NewInt(65536)).Int64())
}

func checkHop(t *testing.T, seed, frame, channels, want int) {
	t.Helper()
	if got := impl.Hop(seed, frame, channels); got != want {
		t.Errorf("Hop(%d, %d, %d): %d, not %d", seed, frame, channels, got, want)
	}
}

// P15: known hops.
func TestKnownHops(t *testing.T) {
	for _, c := range [][4]int{
		{0, 0, 8, 0},
		{0, 0, 1, 0},
		{0, 0, 64, 0},
		{1, 1, 64, 39}, // 40504: 158 and 56, folded 158 and 166
		{0, 1, 64, 39},
		{0, 1, 2, 1},
		{0, 2, 64, 15}, // 81006 - 65536 = 15470: 60 and 110
		{65535, 0, 64, 63},
		{65535, 0, 1, 0},
		{32767, 0, 2, 0},
		{32768, 0, 2, 1},
		{25033, 1, 64, 0}, // the sum is 65536
		{25032, 1, 64, 63},
		{65535, 1, 64, 39},
		{1023, 0, 64, 0},
		{1024, 0, 64, 1},
		{0, 1000000, 64, 46}, // 40503000000 is 48064 more than a multiple of 65536: 187 and 192
		{65535, 1000000, 64, 46},
		{255, 0, 64, 0},
		{256, 0, 64, 0},
		{64511, 0, 64, 62},
		{64512, 0, 64, 63},
		// Of 3 channels the first ends with 21845.
		{21845, 0, 3, 0}, // 85 and 85, folded 85 and 0
		{21760, 0, 3, 0}, // 85 and 0, folded 85 and 85: 21845
		{21763, 0, 3, 1}, // 85 and 3, folded 85 and 86: 21846
		{21930, 0, 3, 1}, // 85 and 170, folded 85 and 255
	} {
		if told := secondHop(c[0], c[1], c[2]); told != c[3] {
			t.Errorf("the second telling of %d is wrong: %d", c, told)
		}
		checkHop(t, c[0], c[1], c[2], c[3])
	}
}

// P15: drawn hops, and those at the ends of all three.
func TestDrawnHops(t *testing.T) {
	r := drawn(1508)
	for range 60000 {
		seed, frame, channels := r.below(65536), r.below(1000001), 1+r.below(64)
		checkHop(t, seed, frame, channels, secondHop(seed, frame, channels))
	}
	for _, seed := range []int{0, 1, 255, 256, 32767, 32768, 65534, 65535} {
		for _, frame := range []int{0, 1, 2, 53021, 53022, 65535, 65536, 106042, 999999, 1000000} {
			for channels := 1; channels <= 64; channels++ {
				checkHop(t, seed, frame, channels, secondHop(seed, frame, channels))
			}
		}
	}
}

// P15: in each 65536 frames in a row every channel is used, as often as numbers
// of 16 bits fall to it.
func TestHopsUseAllChannels(t *testing.T) {
	for _, c := range []struct{ seed, from int }{{0, 0}, {65535, 0}, {4711, 65536}, {1, 934465}} {
		for channels := 1; channels <= 64; channels++ {
			used, want := make([]int, channels), make([]int, channels)
			for i := range 65536 {
				used[impl.Hop(c.seed, c.from+i, channels)]++
				want[i*channels/65536]++
			}
			for channel, times := range used {
				if times != want[channel] || times == 0 {
					t.Errorf("seed %d, %d channels: %d is used %d times, not %d", c.seed, channels, channel, times, want[channel])
				}
			}
		}
	}
}

// P15, P21: each of the three just past its ends, and far off.
func TestHopLimits(t *testing.T) {
	for _, seed := range []int{0, 1, 65535} {
		for _, frame := range []int{0, 1, 1000000} {
			for _, channels := range []int{1, 2, 63, 64} {
				checkHop(t, seed, frame, channels, secondHop(seed, frame, channels))
				for _, wrong := range append([]int{-1, -2, 65536, 65537}, wrongFrames()...) {
					checkHop(t, wrong, frame, channels, -1)
				}
				for _, wrong := range wrongFrames() {
					checkHop(t, seed, wrong, channels, -1)
				}
				for _, wrong := range append([]int{0, -1, -64, 65, 66, 128}, farNumbers...) {
					checkHop(t, seed, frame, wrong, -1)
				}
				checkHop(t, -1, -1, channels, -1)
				checkHop(t, 65536, 1000001, 65, -1)
			}
		}
	}
}
