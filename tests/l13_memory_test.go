package tests

import (
	"fmt"
	"slices"
	"sync"
	"testing"

	"loop.example/g00052/impl"
)

// memoryTones are right and wrong lists of levels.
func memoryTones() [][]int {
	return [][]int{
		nil,
		{1000, 0, -1000, 0},
		windowsOf("5")[:127],
		windowsOf("5"),
		windowsOf("55")[:129],
		windowsOf("55"),
		windowsOf("5566.77C")[:1000],
		windowsOf("5566.77C"),
		windowsOf("55555555"),
		append(windowsOf("55555555"), 0),
		levelsWith(128, 99, 32768),
		append(windowsOf("55"), -32768),
	}
}

// tellTones is what all calls answer to a list, as text.
func tellTones(list []int) string {
	text := fmt.Sprintln(impl.Digit(list))
	for _, step := range []int{0, 1, 12, 34, 64, 255, 256, -1} {
		text += fmt.Sprintln(impl.Power13(list, step))
	}
	return text + fmt.Sprintln(impl.Digits13(list))
}

// P13: nothing is written into levels or behind them, and nothing there is
// read.
func TestTonesMemory(t *testing.T) {
	for _, list := range memoryTones() {
		want := tellTones(slices.Clip(slices.Clone(list)))
		for _, mark := range []int{0, 3000, 32768} {
			g := guard(mark, list)
			if got := tellTones(g.list); got != want || !g.untouched() {
				t.Errorf("%d levels: written into, or another answer: %s, not %s", len(list), got, want)
			}
		}
	}
	// A list in the middle of a longer one: what lies on both sides is not its.
	long := windowsOf("5555")
	g := guard(7, long)
	if got, _ := impl.Digits13(g.list[100:355]); got != "" || impl.Digit(g.list[5:132]) != -1 || !g.untouched() {
		t.Errorf("what lies behind was read: %q", got)
	}
}

// P13: what a tone answers stands apart from what another one does.
func TestTonesStandApart(t *testing.T) {
	for digit := range 16 {
		for _, n := range []int{1, 128, 1024} {
			first, _ := impl.Tone13(digit, 500, 9, n)
			second, _ := impl.Tone13(digit, 500, 9, n)
			want := slices.Clone(second)
			scribble(first, 4321)
			third, _ := impl.Tone13(digit, 500, 9, n)
			if !slices.Equal(second, want) || !slices.Equal(third, want) {
				t.Errorf("digit %d, %d levels: shared", digit, n)
			}
		}
	}
}

// P13: no call plays a part in what another one answers, nor do several at once.
func TestTonesKeepNothing(t *testing.T) {
	lists := memoryTones()
	var want []string
	for _, list := range lists {
		want = append(want, tellTones(list))
	}
	for i, list := range lists {
		for _, other := range lists {
			tellTones(other)
			impl.Tone13(i, 16001, 0, 9)
			impl.Wave(i)
			if got := tellTones(list); got != want[i] {
				t.Fatalf("list %d: another answer behind another call: %s", i, got)
			}
		}
	}
	var all sync.WaitGroup
	got := make([][]string, 6)
	for one := range got {
		all.Go(func() {
			for _, list := range lists {
				got[one] = append(got[one], tellTones(list))
			}
		})
	}
	all.Wait()
	for _, told := range got {
		if !slices.Equal(told, want) {
			t.Error("several at once are answered otherwise")
		}
	}
}
