package tests

import (
	"fmt"
	"slices"
	"sync"
	"testing"

	"loop.example/g00052/impl"
)

// memoryVoices are right and wrong lists, some of which are numbers of four bits
// too.
func memoryVoices() [][]int {
	return [][]int{
		nil,
		{0},
		{7, 7, 12},
		{7, 7, -100},
		{15, 16},
		{32768},
		oneWave[:],
		oneWave[:29],
		foursWith(29, 3, 15),
		foursWith(30, 3, 15),
		foursWith(31, 3, 15),
		foursWith(impl.MaxLevels, 3, 15),
		foursWith(impl.MaxLevels+1, 3, 15),
		levelsWith(impl.MaxLevels, 299, -32767),
		levelsWith(impl.MaxLevels, 299, -32768),
	}
}

// voiceCalls are the calls that answer a list to a list, by their names.
func voiceCalls() map[string]func(c impl.Coder, list []int) []int {
	return map[string]func(c impl.Coder, list []int) []int{
		"Squeeze": func(c impl.Coder, list []int) []int { got, _, _ := impl.Squeeze(c, list); return got },
		"Expand":  func(c impl.Coder, list []int) []int { got, _, _ := impl.Expand(c, list); return got },
	}
}

// tellVoice is what all functions of voice answer to a coder and a list.
func tellVoice(c impl.Coder, list []int) string {
	text := fmt.Sprint(impl.VoiceOk(list), impl.StepSize(c.Step), impl.ToLaw(c.Last), impl.FromLaw(c.Step))
	numbers, end, ok := impl.Squeeze(c, list)
	text += fmt.Sprint("; ", numbers, end, ok)
	levels, end, ok := impl.Expand(c, list)
	text += fmt.Sprint("; ", levels, end, ok)
	frame, end, ok := impl.FrameOf(c, list)
	text += fmt.Sprint("; ", frame, end, ok)
	levels, end, ok = impl.OfFrame(c.Last, frame)
	return text + fmt.Sprint("; ", levels, end, ok)
}

// P11: nothing is written into a list or behind it, and nothing there is read:
// neither what would be right nor what would not.
func TestVoiceMemory(t *testing.T) {
	for _, list := range memoryVoices() {
		for _, c := range []impl.Coder{waveCoder, {}, coder(32767, 48), coder(0, 49)} {
			want := tellVoice(c, slices.Clip(slices.Clone(list)))
			for _, mark := range []int{5, -9, 99999} {
				g := guard(mark, list)
				if got := tellVoice(c, g.list); got != want {
					t.Errorf("%v, %v, %d behind it: %s, not %s", c, list, mark, got, want)
				}
				if !g.untouched() {
					t.Errorf("%v, %v: written into", c, list)
				}
			}
		}
	}
}

// P11: an answer shares no memory with an argument, nor with another answer.
func TestVoiceAnswersStandApart(t *testing.T) {
	for name, call := range voiceCalls() {
		for _, list := range memoryVoices() {
			g := guard(5, list)
			first, second := call(waveCoder, g.list), call(waveCoder, g.list)
			want := slices.Clone(first)
			scribble(first, 4321)
			if !g.untouched() || !slices.Equal(second, want) {
				t.Errorf("%s of %v: its answer is shared", name, list)
			}
			scribble(g.whole, 1234)
			if !slices.Equal(second, want) {
				t.Errorf("%s of %v: its answer changed with the argument", name, list)
			}
			if got := call(waveCoder, slices.Clone(list)); !slices.Equal(got, want) {
				t.Errorf("%s of %v: another answer the next time: %v", name, list, got)
			}
		}
	}
}

// P11: the levels of a frame stand apart from those of another time, and what is
// written into a frame changes no other.
func TestFrameAnswersStandApart(t *testing.T) {
	first, _, _ := impl.OfFrame(waveCoder.Last, waveFrame)
	second, _, _ := impl.OfFrame(waveCoder.Last, waveFrame)
	scribble(first, 4321)
	third, _, _ := impl.OfFrame(waveCoder.Last, waveFrame)
	if !slices.Equal(second, waveTold[:]) || !slices.Equal(third, waveTold[:]) {
		t.Errorf("%v, %v", second, third)
	}
	one, _, _ := impl.FrameOf(waveCoder, oneWave[:])
	scribble(one[:], 99)
	if other, _, _ := impl.FrameOf(waveCoder, oneWave[:]); other != waveFrame {
		t.Errorf("%x", other)
	}
}

// P11: no call plays a part in what another one answers.
func TestVoiceKeepsNothing(t *testing.T) {
	for _, list := range memoryVoices() {
		first := tellVoice(waveCoder, list)
		for _, other := range memoryVoices() {
			for _, c := range []impl.Coder{coder(-32767, 48), coder(0, -1), coder(32768, 0)} {
				tellVoice(c, other)
			}
			if again := tellVoice(waveCoder, list); again != first {
				t.Fatalf("%v behind %v: %s, not %s", list, other, again, first)
			}
		}
	}
}

// P11: several who ask at once are answered as one alone.
func TestVoicesAtOnce(t *testing.T) {
	lists := memoryVoices()
	var want []string
	for _, list := range lists {
		want = append(want, tellVoice(waveCoder, list))
	}
	var all sync.WaitGroup
	got := make([][]string, 6)
	for one := range got {
		all.Go(func() {
			for _, list := range lists {
				got[one] = append(got[one], tellVoice(waveCoder, list))
			}
		})
	}
	all.Wait()
	for _, told := range got {
		if !slices.Equal(told, want) {
			t.Errorf("%v, not %v", told, want)
		}
	}
}
