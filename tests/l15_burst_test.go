package tests

import (
	"slices"
	"strings"
	"testing"

	"loop.example/g00052/impl"
)

// trainBits are what the register tells from 5 on, worked out by hand: it is 5,
// 22, 11, 17, 28, 14, 7, 23, 31, 27, 25, 24, 12, 6, 3, 21, 30, 15, 19, 29, 26,
// 13, 18, 9, 16 and 8.
const trainBits = "10110011111000110111010100"

// signText writes samples whose parts are 1 and -1 as bits, two a sample, as a
// burst tells them; every other part is a ?.
func signText(samples []impl.Sample) string {
	var b strings.Builder
	for _, sample := range samples {
		for _, part := range []float32{sample.Re, sample.Im} {
			switch part {
			case 1:
				b.WriteByte('1')
			case -1:
				b.WriteByte('0')
			default:
				b.WriteByte('?')
			}
		}
	}
	return b.String()
}

// trainSigns are the samples of the training in that form: both parts alike.
var trainSigns = strings.NewReplacer("0", "00", "1", "11").Replace(trainBits)

// trainParts are the samples of the training.
func trainParts() []parts {
	var list []parts
	for _, c := range trainBits {
		part := float64(2*(c-'0') - 1)
		list = append(list, parts{part, part})
	}
	return list
}

// registerBits tells n bits of a register without turning it: a bit of what it
// begins with is told at its place, and each 1 that is told comes back so many
// places behind as lags say.
func registerBits(begin int, lags []int, n int) []int {
	bits := make([]int, n)
	for i := range bits {
		if i < 60 {
			bits[i] = begin >> i & 1
		}
		for _, lag := range lags {
			if i >= lag {
				bits[i] ^= bits[i-lag]
			}
		}
	}
	return bits
}

// P15: all samples of the training, by hand and by the second register.
func TestTrain(t *testing.T) {
	train := impl.Train()
	if len(train) != impl.MaxTrain || signText(train) != trainSigns {
		t.Errorf("Train: %s, not %s", signText(train), trainSigns)
	}
	if !sameSamples(train, trainParts()) {
		t.Errorf("Train: %v, not %v", train, trainParts())
	}
	if told := textOf(registerBits(5, []int{5, 3}, 26)); told != trainBits {
		t.Errorf("the second register is wrong: %s", told)
	}
}

// P15: a training that was written into does not change the next one.
func TestTrainStandsApart(t *testing.T) {
	first, second := impl.Train(), impl.Train()
	scribble(first, strangeSample)
	if signText(second) != trainSigns || signText(impl.Train()) != trainSigns {
		t.Error("trainings share memory")
	}
	burst, _ := impl.Burst([]int{1, 0, 0, 1})
	if signText(burst) != "10"+trainSigns+"01" {
		t.Error("a burst shares memory with a training")
	}
	scribble(burst, strangeSample)
	if signText(impl.Train()) != trainSigns {
		t.Error("a training shares memory with a burst")
	}
}

// burstText is what is told of bits: half of the samples, cut down, stand ahead
// of the training.
func burstText(bits string) string {
	ahead := len(bits) / 4 * 2
	return bits[:ahead] + trainSigns + bits[ahead:]
}

func checkBurst(t *testing.T, bits string) {
	t.Helper()
	if got, ok := impl.Burst(bitsOf(bits)); !ok || signText(got) != burstText(bits) {
		t.Errorf("Burst(%s): %s and %t, not %s", bits, signText(got), ok, burstText(bits))
	}
}

func checkNoBurst(t *testing.T, bits []int) {
	t.Helper()
	if got, ok := impl.Burst(bits); ok || len(got) != 0 {
		t.Errorf("Burst(%d): %v and %t", bits, got, ok)
	}
}

// P15: known bursts; an odd number of samples has the lesser half first.
func TestKnownBursts(t *testing.T) {
	for _, c := range [][3]string{
		{"00", "", "00"},
		{"01", "", "01"},
		{"10", "", "10"},
		{"11", "", "11"},
		{"1001", "10", "01"},
		{"100111", "10", "0111"},
		{"00011011", "0001", "1011"},
		{"1000000001", "1000", "000001"},
		{"110000000001", "110000", "000001"},
	} {
		bits := c[0]
		if burstText(bits) != c[1]+trainSigns+c[2] {
			t.Errorf("the second telling of %s is wrong: %s", bits, burstText(bits))
		}
		checkBurst(t, bits)
	}
}

func TestShortBursts(t *testing.T) {
	for _, bits := range bitTexts(10) {
		if bits != "" && len(bits)%2 == 0 {
			checkBurst(t, bits)
		} else {
			checkNoBurst(t, bitsOf(bits))
		}
	}
}

// P15, P21: 2 to 2 MaxBurst bits, an even number of them.
func TestBurstSizes(t *testing.T) {
	if impl.MaxBurst != 160 || impl.MaxTrain != 26 {
		t.Errorf("MaxBurst is %d, MaxTrain %d", impl.MaxBurst, impl.MaxTrain)
	}
	for n := range 700 {
		for _, text := range []string{"0", "1", "110", "0010111"} {
			bits := repeated(text, n)
			if n < 2 || n > 320 || n%2 == 1 {
				checkNoBurst(t, bits)
				continue
			}
			checkBurst(t, textOf(bits))
			if got, _ := impl.Burst(bits); len(got) != n/2+26 || len(got) > impl.MaxSamples {
				t.Errorf("%d bits are %d samples", n, len(got))
			}
		}
	}
}

// P15: a bit that is neither 0 nor 1, in each place.
func TestBurstOfNoBits(t *testing.T) {
	for _, n := range []int{2, 4, 6, 320} {
		for _, x := range append([]int{2, 3, -1, -2, 48, 49, 256, 257}, farNumbers...) {
			for _, place := range []int{0, 1, n / 2, n - 2, n - 1} {
				for _, rest := range []string{"0", "1", "10"} {
					bits := repeated(rest, n)
					bits[place] = x
					checkNoBurst(t, bits)
				}
			}
		}
	}
	for place := range 320 {
		bits := make([]int, 320)
		bits[place] = 2
		checkNoBurst(t, bits)
	}
}

// P15: each bit is told by a part of its own.
func TestBurstTellsEachBit(t *testing.T) {
	for n := 2; n <= 320; n += 2 {
		for place := range n {
			bits := make([]int, n)
			bits[place] = 1
			got, _ := impl.Burst(bits)
			if strings.Count(signText(got), "1") != 1+strings.Count(trainSigns, "1") {
				t.Fatalf("bit %d of %d: %s", place, n, signText(got))
			}
			if back, ok := impl.Bits15(got); !ok || !slices.Equal(back, bits) {
				t.Fatalf("bit %d of %d comes back as %d", place, n, back)
			}
		}
	}
}
