package tests

import (
	"math"
	"math/big"
	"testing"

	"loop.example/g00052/impl"
)

// waveTable is the first quarter of a circle, worked out from the rule apart
// from the program, in numbers without a limit.
var waveTable = [65]int{
	1073741824, 1073418433, 1072448455, 1070832474, 1068571463, 1065666784, 1062120187, 1057933808,
	1053110169, 1047652176, 1041563116, 1034846657, 1027506845, 1019548101, 1010975219, 1001793363,
	992008064, 981625216, 970651074, 959092248, 946955701, 934248743, 920979028, 907154550,
	892783636, 877874942, 862437449, 846480456, 830013575, 813046725, 795590126, 777654293,
	759250030, 740388423, 721080834, 701338893, 681174492, 660599777, 639627141, 618269217,
	596538871, 574449192, 552013486, 529245268, 506158252, 482766345, 459083638, 435124396,
	410903051, 386434193, 361732561, 336813035, 311690625, 286380464, 260897798, 235257977,
	209476445, 183568732, 157550444, 131437253, 105244889, 78989129, 52685789, 26350713,
	0,
}

// circleTable is the whole circle, filled from the first quarter by its
// mirrors.
var circleTable = func() (circle [256]int) {
	for k, wave := range waveTable {
		circle[(256-k)%256] = wave
		circle[k] = wave
	}
	for k, wave := range waveTable {
		circle[128-k], circle[128+k] = -wave, -wave
	}
	circle[64], circle[192] = 0, 0
	return circle
}()

// secondWave goes round the circle for steps that are not on it.
func secondWave(step int) int { return circleTable[uint8(step)] }

func checkWave(t *testing.T, step int, want int) {
	t.Helper()
	if got := impl.Wave(step); got != want {
		t.Errorf("Wave(%d): %d, not %d", step, got, want)
	}
}

// P13: known steps, at the ends of each quarter and beside them.
func TestKnownWaves(t *testing.T) {
	for step, want := range map[int]int{
		0: impl.Whole, 1: 1073418433, 2: 1072448455, 32: 759250030, 63: 26350713, 64: 0,
		65: -26350713, 66: -52685789, 96: -759250030, 126: -1072448455, 127: -1073418433, 128: -impl.Whole,
		129: -1073418433, 130: -1072448455, 160: -759250030, 190: -52685789, 191: -26350713, 192: 0,
		193: 26350713, 194: 52685789, 224: 759250030, 254: 1072448455, 255: 1073418433, 256: impl.Whole,
		257: 1073418433, 320: 0, 384: -impl.Whole, 511: 1073418433, 512: impl.Whole,
		-1: 1073418433, -2: 1072448455, -63: 26350713, -64: 0, -65: -26350713, -127: -1073418433,
		-128: -impl.Whole, -129: -1073418433, -192: 0, -193: 26350713, -255: 1073418433, -256: impl.Whole,
		-257: 1073418433, -320: 0, -384: -impl.Whole,
		math.MaxInt: 1073418433, math.MaxInt - 1: 1072448455, math.MaxInt - 63: 0,
		math.MinInt: impl.Whole, math.MinInt + 1: 1073418433, math.MinInt + 64: 0, math.MinInt + 128: -impl.Whole,
	} {
		checkWave(t, step, want)
	}
}

// P13: each step of the first quarter, against the table.
func TestWavesOfTheTable(t *testing.T) {
	for k, want := range waveTable {
		checkWave(t, k, want)
	}
	if impl.Whole != 1<<30 || impl.Window13 != 128 || impl.MaxTone != 1024 {
		t.Errorf("Whole %d, Window13 %d, MaxTone %d", impl.Whole, impl.Window13, impl.MaxTone)
	}
}

// P13: each step of the first quarter follows from the two ahead of it: what
// is told, w, is such that w + w(k-2) lies at most half below the quotient, or
// less than half above it. No quotient lies just between two.
func TestWavesByTheirRule(t *testing.T) {
	whole, half := big.NewInt(1<<30), big.NewInt(1<<29)
	for k := 2; k < 64; k++ {
		product := new(big.Int).Mul(big.NewInt(2*1073418433), big.NewInt(int64(impl.Wave(k-1))))
		told := big.NewInt(int64(impl.Wave(k) + impl.Wave(k-2)))
		over := product.Sub(product, told.Mul(told, whole))
		if over.CmpAbs(half) >= 0 {
			t.Errorf("w%d is not the nearest: %d off", k, over)
		}
	}
}

// P13: each step of a circle by the rule of its quarter.
func TestWavesByTheirQuarter(t *testing.T) {
	for s := range 256 {
		switch {
		case s <= 64:
			checkWave(t, s, waveTable[s])
		case s <= 128:
			checkWave(t, s, -impl.Wave(128-s))
		case s <= 192:
			checkWave(t, s, -impl.Wave(s-128))
		default:
			checkWave(t, s, impl.Wave(256-s))
		}
		checkWave(t, s, secondWave(s))
	}
}

// P13: the waves are those of a cosine, nearly.
func TestWavesAreCosines(t *testing.T) {
	for s := range 256 {
		want := math.Cos(2*math.Pi*float64(s)/256) * impl.Whole
		if got := float64(impl.Wave(s)); math.Abs(got-want) > 256 {
			t.Errorf("Wave(%d): %v, a cosine %v", s, got, want)
		}
	}
}

// P13: a circle and many circles on and back it is the same, and the same both
// ways round.
func TestWavesGoRound(t *testing.T) {
	for s := range 256 {
		for _, circles := range []int{-1 << 55, 1 - 1<<55, -1000003, -256, -3, -2, -1, 1, 2, 3, 255, 256, 1000003, 1 << 24, 1 << 30, 1<<55 - 1} {
			checkWave(t, circles*256+s, secondWave(s))
		}
		checkWave(t, -s, secondWave(s))
	}
	for step := -3000; step <= 3000; step++ {
		checkWave(t, step, circleTable[((step%256)+256)%256])
	}
	for _, step := range append(endsAround(1<<16, 1<<31, -(1<<31), 1<<32, 1<<62, -(1<<62)), farNumbers...) {
		checkWave(t, step, secondWave(step))
	}
}
