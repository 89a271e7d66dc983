package tests

import (
	"fmt"
	"slices"
	"testing"

	"loop.example/g00052/impl"
)

// memoryBits are right and wrong lists of bits.
func memoryBits() [][]int {
	r := drawn(1510)
	lists := [][]int{{2}, {0, 1, -1, 1}, {5, 9, 7}}
	for _, n := range []int{0, 1, 2, 3, 4, 6, 16, 48, 64, 65, 319, 320, 321, 322} {
		lists = append(lists, drawBitList(&r, n))
	}
	return append(lists, slices.Repeat([]int{1}, 64), slices.Repeat([]int{1}, 65))
}

// memoryBursts are lists of samples of every length that plays a part, with and
// without a training in them.
func memoryBursts() [][]impl.Sample {
	lists := memorySamples()
	for _, bits := range memoryBits() {
		burst, _ := impl.Burst(bits)
		lists = append(lists, burst)
	}
	r := drawn(1511)
	for _, n := range []int{26, 27, 28, 186, 200, 201} {
		lists = append(lists, samplesFrom(drawList(&r, n, drawWhole)))
	}
	return lists
}

// bitCalls are the calls that take bits, or a book.
func bitCalls() map[string]func(bits []int) ([]int, bool) {
	calls := map[string]func(bits []int) ([]int, bool){
		"Burst": func(bits []int) ([]int, bool) {
			burst, ok := impl.Burst(bits)
			return bitsOf(signText(burst)), ok
		},
		"Key15": func(bits []int) ([]int, bool) {
			key, ok := impl.Key15(bits, 70001)
			return []int{key}, ok
		},
		"Stir15": func(bits []int) ([]int, bool) { return impl.Stir15(bits, 12345) },
		"no key": func(bits []int) ([]int, bool) { return impl.Stir15(bits, 0) },
	}
	for _, rows := range []int{0, 1, 2, 4, 16, 17} {
		calls[fmt.Sprint("Weave15 in ", rows)] = func(bits []int) ([]int, bool) { return impl.Weave15(bits, rows) }
		calls[fmt.Sprint("Unweave15 in ", rows)] = func(bits []int) ([]int, bool) { return impl.Unweave15(bits, rows) }
	}
	return calls
}

// P15: nothing is written into bits or behind them, nothing there is read, and
// what is answered stands apart from them and from other answers.
func TestStirredBitsMemory(t *testing.T) {
	for name, call := range bitCalls() {
		for _, bits := range memoryBits() {
			want, fine := call(slices.Clip(slices.Clone(bits)))
			for _, mark := range []int{0, 1, 777} {
				g := guard(mark, bits)
				first, ok := call(g.list)
				second, _ := call(g.list)
				scribble(first, 4321)
				third, _ := call(g.list)
				if ok != fine || !slices.Equal(second, want) || !slices.Equal(third, want) || !g.untouched() {
					t.Errorf("%s of %d: written into, shared, or another answer", name, len(bits))
				}
				scribble(g.list, 4321)
				if !slices.Equal(second, want) || !slices.Equal(third, want) {
					t.Errorf("%s of %d: an argument is handed out", name, len(bits))
				}
			}
		}
	}
}

func TestBurstsStandApart(t *testing.T) {
	for _, bits := range memoryBits() {
		first, ok := impl.Burst(bits)
		second, _ := impl.Burst(bits)
		want := slices.Clone(second)
		scribble(first, strangeSample)
		third, again := impl.Burst(bits)
		if ok != again || !slices.Equal(second, want) || !slices.Equal(third, want) {
			t.Errorf("bursts of %d bits share memory", len(bits))
		}
	}
}

// tellBursts is what all calls answer to samples and noise, as text.
func tellBursts(burst, noise []impl.Sample) string {
	text := fmt.Sprintln(impl.Air15(burst, impl.Sample{Re: 2, Im: -0.5}, noise))
	text += fmt.Sprintln(impl.Gain15(burst))
	return text + fmt.Sprintln(impl.Bits15(burst))
}

// P15: nothing is written into samples or behind them, and nothing there is
// read.
func TestBurstsMemory(t *testing.T) {
	for _, burst := range memoryBursts() {
		for _, noise := range [][]impl.Sample{slices.Clone(burst), append(slices.Clone(burst), strangeSample)} {
			slices.Reverse(noise)
			want := tellBursts(slices.Clip(slices.Clone(burst)), slices.Clip(slices.Clone(noise)))
			for _, mark := range []impl.Sample{{}, strangeSample} {
				a, b := guard(mark, burst), guard(mark, noise)
				if got := tellBursts(a.list, b.list); got != want || !a.untouched() || !b.untouched() {
					t.Errorf("%d and %d samples: written into, or another answer: %s, not %s", len(burst), len(noise), got, want)
				}
			}
		}
		// One list in both places.
		want := tellBursts(burst, slices.Clone(burst))
		g := guard(strangeSample, burst)
		if got := tellBursts(g.list, g.list); got != want || !g.untouched() {
			t.Errorf("%d samples twice: written into, or another answer: %s, not %s", len(burst), got, want)
		}
	}
}

// P15: what comes over the air and the bits of it stand apart from the samples
// and from other answers.
func TestAirStandsApart(t *testing.T) {
	for _, burst := range memoryBursts() {
		for _, gain := range []impl.Sample{{Re: 1}, {Re: -2, Im: 1}} {
			a, b := guard(strangeSample, burst), guard(strangeSample, make([]impl.Sample, len(burst)))
			air, _ := impl.Air15(a.list, gain, b.list)
			air2, _ := impl.Air15(a.list, gain, b.list)
			bits, _ := impl.Bits15(a.list)
			bits2, _ := impl.Bits15(a.list)
			wantAir, wantBits := slices.Clone(air), slices.Clone(bits)
			scribble(air, strangeSample)
			scribble(bits, 4321)
			air3, _ := impl.Air15(burst, gain, make([]impl.Sample, len(burst)))
			bits3, _ := impl.Bits15(burst)
			if !a.untouched() || !b.untouched() || !slices.Equal(air2, wantAir) || !slices.Equal(air3, wantAir) ||
				!slices.Equal(bits2, wantBits) || !slices.Equal(bits3, wantBits) {
				t.Errorf("%d samples: shared with an argument or another answer", len(burst))
			}
			scribble(a.list, strangeSample)
			scribble(b.list, strangeSample)
			if !slices.Equal(air2, wantAir) {
				t.Errorf("%d samples: an argument is handed out", len(burst))
			}
		}
	}
}

// P15: no call plays a part in what another one answers, nor do several at once.
func TestBurstsKeepNothing(t *testing.T) {
	bursts, lists, calls := memoryBursts(), memoryBits(), bitCalls()
	tell := func(r *drawn) string {
		text := ""
		for _, burst := range bursts {
			text += tellBursts(burst, burst)
		}
		for _, name := range []string{"Burst", "Key15", "Stir15", "Weave15 in 2", "Unweave15 in 4"} {
			for _, bits := range lists {
				text += fmt.Sprintln(calls[name](bits))
				impl.Stir15(bits, 1+r.below(65535))
				impl.Burst(drawBitList(r, 2))
				impl.Hop(r.below(65536), r.below(1000), 8)
			}
		}
		return text + signText(impl.Train())
	}
	checkToldAlike(t, 1512, tell)
}
