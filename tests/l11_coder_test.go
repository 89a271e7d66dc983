package tests

import (
	"fmt"
	"slices"
	"testing"

	"loop.example/g00052/impl"
)

func coder(last int, step int) impl.Coder { return impl.Coder{Last: last, Step: step} }

// wrongCoders have one fault each, or two.
func wrongCoders() []impl.Coder {
	list := []impl.Coder{coder(32768, 49), coder(-32768, -1)}
	for _, last := range noLevels() {
		list = append(list, coder(last, 0), coder(last, 48))
	}
	for _, step := range noSteps() {
		list = append(list, coder(0, step), coder(32767, step), coder(-32767, step))
	}
	return list
}

// noFours are one past each end of the numbers of four bits, and far off.
func noFours() []int {
	return append([]int{-1, 16, -2, 17, -8, -15, -16, 31, 32, 48, 255, 256, 257}, farNumbers...)
}

// secondNumber counts up how many quarters of a step fit into the difference.
func secondNumber(c impl.Coder, level int) int {
	q := 0
	for q < 7 && (q+1)*stepTable[c.Step] <= 4*sizeOf(level-c.Last) {
		q++
	}
	if level < c.Last {
		return q + 8
	}
	return q
}

// secondCoder tells by tables what becomes of a coder behind a number.
func secondCoder(c impl.Coder, number int) impl.Coder {
	parts := [8][]int{{8}, {8, 4}, {8, 2}, {8, 2, 4}, {8, 1}, {8, 1, 4}, {8, 1, 2}, {8, 1, 2, 4}}
	sign := 1 - number/8*2
	for _, part := range parts[number%8] {
		c.Last += sign * (stepTable[c.Step] / part)
	}
	if c.Last > 32767 {
		c.Last = 32767
	} else if c.Last < -32767 {
		c.Last = -32767
	}
	switch number % 8 {
	case 0, 1, 2, 3:
		c.Step--
	default:
		c.Step += (number%8 - 3) * 2
	}
	if c.Step > 48 {
		c.Step = 48
	} else if c.Step < 0 {
		c.Step = 0
	}
	return c
}

// secondVoice are the numbers that levels are squeezed to, the levels that these
// tell, and the coder behind them.
func secondVoice(c impl.Coder, list []int) ([]int, []int, impl.Coder) {
	var numbers, levels []int
	for _, level := range list {
		number := secondNumber(c, level)
		c = secondCoder(c, number)
		numbers, levels = append(numbers, number), append(levels, c.Last)
	}
	return numbers, levels, c
}

// checkVoice wants levels squeezed to numbers, and these told as other levels,
// both ending with the same coder.
func checkVoice(t *testing.T, c impl.Coder, list []int, numbers []int, levels []int, end impl.Coder) {
	t.Helper()
	got, after, ok := impl.Squeeze(c, list)
	if !ok || !slices.Equal(got, numbers) || after != end {
		t.Fatalf("Squeeze(%v, %v): %v, %v, %v; not %v, %v", c, list, got, after, ok, numbers, end)
	}
	told, after, ok := impl.Expand(c, numbers)
	if !ok || !slices.Equal(told, levels) || after != end {
		t.Fatalf("Expand(%v, %v): %v, %v, %v; not %v, %v", c, numbers, told, after, ok, levels, end)
	}
}

// P11: known voices: ones that are met, that are run after, that are cut.
func TestKnownVoices(t *testing.T) {
	repeat := func(level int, n int) []int { return slices.Repeat([]int{level}, n) }
	for _, c := range []struct {
		begin   impl.Coder
		list    []int
		numbers []int
		levels  []int
		end     impl.Coder
	}{
		{coder(0, 0), nil, nil, nil, coder(0, 0)},
		{coder(-32767, 48), nil, nil, nil, coder(-32767, 48)},
		{coder(0, 0), []int{7, 7, -100}, []int{4, 0, 15}, []int{7, 8, -7}, coder(-7, 9)},
		{coder(0, 0), repeat(0, 4), repeat(0, 4), repeat(0, 4), coder(0, 0)},
		{coder(0, 48), repeat(0, 6), []int{0, 8, 8, 0, 8, 0}, []int{145, 13, -107, 2, -97, -7}, coder(-7, 42)},
		{coder(100, 3), []int{101, 99, 100, 130, 70}, []int{0, 8, 0, 7, 15}, []int{101, 100, 101, 112, 75}, coder(75, 16)},
		{coder(0, 0), repeat(1000, 10), []int{7, 7, 7, 7, 7, 1, 8, 0, 8, 0}, []int{11, 48, 141, 354, 820, 1022, 961, 1016, 966, 1011}, coder(1011, 35)},
		{coder(0, 0), repeat(-1000, 10), []int{15, 15, 15, 15, 15, 9, 0, 8, 0, 8}, []int{-11, -48, -141, -354, -820, -1022, -961, -1016, -966, -1011}, coder(-1011, 35)},
		{coder(32767, 48), repeat(32767, 3), repeat(0, 3), repeat(32767, 3), coder(32767, 45)},
		{coder(-32767, 48), repeat(-32767, 3), []int{0, 8, 8}, []int{-32622, -32754, -32767}, coder(-32767, 45)},
		{coder(-32767, 48), repeat(32767, 5), repeat(7, 5), []int{-30584, -28401, -26218, -24035, -21852}, coder(-21852, 48)},
		{coder(32767, 48), repeat(-32767, 5), repeat(15, 5), []int{30584, 28401, 26218, 24035, 21852}, coder(21852, 48)},
		{coder(-32767, 0), repeat(32767, 9), repeat(7, 9), []int{-32756, -32719, -32626, -32413, -31947, -30935, -28752, -26569, -24386}, coder(-24386, 48)},
		{coder(32767, 0), repeat(-32767, 9), repeat(15, 9), []int{32756, 32719, 32626, 32413, 31947, 30935, 28752, 26569, 24386}, coder(24386, 48)},
	} {
		checkVoice(t, c.begin, c.list, c.numbers, c.levels, c.end)
		numbers, levels, end := secondVoice(c.begin, c.list)
		if !slices.Equal(numbers, c.numbers) || !slices.Equal(levels, c.levels) || end != c.end {
			t.Errorf("the second telling of %v from %v is wrong: %v, %v, %v", c.list, c.begin, numbers, levels, end)
		}
	}
}

// P11: what each number does at three steps: each part of a step is made whole
// by itself (of 7: 0, 7, 3 and 1).
func TestExpandOfEachNumber(t *testing.T) {
	for _, c := range []struct {
		step  int
		by    [8]int
		steps [8]int
	}{
		{0, [8]int{0, 1, 3, 4, 7, 8, 10, 11}, [8]int{0, 0, 0, 0, 2, 4, 6, 8}},
		{10, [8]int{3, 9, 16, 22, 29, 35, 42, 48}, [8]int{9, 9, 9, 9, 12, 14, 16, 18}},
		{41, [8]int{74, 222, 371, 519, 669, 817, 966, 1114}, [8]int{40, 40, 40, 40, 43, 45, 47, 48}},
		{48, [8]int{145, 436, 727, 1018, 1310, 1601, 1892, 2183}, [8]int{47, 47, 47, 47, 48, 48, 48, 48}},
	} {
		for q := range 8 {
			for _, last := range []int{0, 5000, -5000} {
				for _, sign := range []int{1, -1} {
					number := q + 4*(1-sign)
					want := coder(last+sign*c.by[q], c.steps[q])
					got, end, ok := impl.Expand(coder(last, c.step), []int{number})
					if !ok || !slices.Equal(got, []int{want.Last}) || end != want {
						t.Errorf("%d at %d, step %d: %v, %v, %v; not %v", number, last, c.step, got, end, ok, want)
					}
				}
			}
		}
	}
}

// nearEnds are levels at, near and far from either end.
func nearEnds() []int {
	list := []int{0, 1, -1, 7, -7, 1000, -1000, 16384, -16384}
	for _, by := range []int{0, 1, 2, 6, 7, 8, 9, 144, 145, 146, 435, 436, 437, 1310, 2182, 2183, 2184, 3000} {
		list = append(list, 32767-by, by-32767)
	}
	return list
}

// P11: every number at every step, at levels which are cut and which are not.
func TestExpandOfEveryNumberAtEveryStep(t *testing.T) {
	for step := range 49 {
		for _, last := range nearEnds() {
			for number := range 16 {
				want := secondCoder(coder(last, step), number)
				got, end, ok := impl.Expand(coder(last, step), []int{number})
				if !ok || !slices.Equal(got, []int{want.Last}) || end != want {
					t.Fatalf("%d at %d, step %d: %v, %v, %v; not %v", number, last, step, got, end, ok, want)
				}
			}
		}
	}
}

// P11, P21: levels are made to the nearer end only where they lie beyond it.
func TestExpandCutsAtTheEnds(t *testing.T) {
	for _, c := range []struct {
		begin  impl.Coder
		number int
		last   int
	}{
		{coder(32621, 48), 0, 32766}, {coder(32622, 48), 0, 32767}, {coder(32623, 48), 0, 32767}, {coder(32767, 48), 0, 32767},
		{coder(-32621, 48), 8, -32766}, {coder(-32622, 48), 8, -32767}, {coder(-32623, 48), 8, -32767}, {coder(-32767, 48), 8, -32767},
		{coder(30583, 48), 7, 32766}, {coder(30584, 48), 7, 32767}, {coder(30585, 48), 7, 32767}, {coder(32767, 48), 7, 32767},
		{coder(-30583, 48), 15, -32766}, {coder(-30584, 48), 15, -32767}, {coder(-30585, 48), 15, -32767}, {coder(-32767, 48), 15, -32767},
		{coder(32767, 48), 8, 32622}, {coder(-32767, 48), 0, -32622}, {coder(32767, 0), 8, 32767}, {coder(-32767, 0), 0, -32767},
		{coder(32767, 0), 9, 32766}, {coder(-32767, 0), 1, -32766}, {coder(32767, 0), 1, 32767}, {coder(-32767, 0), 9, -32767},
	} {
		if got, end, ok := impl.Expand(c.begin, []int{c.number}); !ok || !slices.Equal(got, []int{c.last}) || end.Last != c.last {
			t.Errorf("%d behind %v: %v, %v, %v", c.number, c.begin, got, end, ok)
		}
	}
}

// P11, P21: steps fall to 0 and rise to 48, and stay there.
func TestStepsFallAndRise(t *testing.T) {
	for _, c := range []struct {
		number int
		begin  int
		steps  []int
	}{
		{0, 2, []int{1, 0, 0, 0}}, {3, 1, []int{0, 0}}, {9, 0, []int{0, 0}}, {11, 2, []int{1, 0, 0}},
		{4, 43, []int{45, 47, 48, 48}}, {12, 44, []int{46, 48, 48}}, {5, 39, []int{43, 47, 48, 48}}, {13, 40, []int{44, 48, 48}},
		{6, 36, []int{42, 48, 48}}, {14, 35, []int{41, 47, 48, 48}}, {7, 0, []int{8, 16, 24, 32, 40, 48, 48}}, {15, 1, []int{9, 17, 25, 33, 41, 48, 48}},
	} {
		at := coder(0, c.begin)
		for i, step := range c.steps {
			_, end, ok := impl.Expand(at, []int{c.number})
			if !ok || end.Step != step {
				t.Errorf("%d from step %d, time %d: %v, %v", c.number, c.begin, i, end, ok)
			}
			at = end
		}
	}
	for n := range 60 {
		if _, end, ok := impl.Expand(coder(0, 48), slices.Repeat([]int{0}, n)); !ok || end.Step != max(48-n, 0) {
			t.Errorf("%d times down: %v, %v", n, end, ok)
		}
	}
}

// checkSqueezed wants one level squeezed to a number.
func checkSqueezed(t *testing.T, c impl.Coder, level int, number int) {
	t.Helper()
	got, end, ok := impl.Squeeze(c, []int{level})
	if !ok || !slices.Equal(got, []int{number}) || end != secondCoder(c, number) {
		t.Fatalf("%d from %v: %v, %v, %v; not %d", level, c, got, end, ok, number)
	}
}

// P11: differences just at each part of a step and one below, of both signs, at
// every step.
func TestSqueezeAtEachPart(t *testing.T) {
	for step, size := range stepTable {
		for _, last := range []int{0, 5, -300, 20000, -20000} {
			for q := 1; q <= 7; q++ {
				at := (q*size + 3) / 4
				checkSqueezed(t, coder(last, step), last+at, q)
				checkSqueezed(t, coder(last, step), last+at-1, q-1)
				checkSqueezed(t, coder(last, step), last-at, q+8)
				checkSqueezed(t, coder(last, step), last-at+1, q-1+8)
			}
		}
	}
}

// P11: no difference has no sign, the least one has, and the greatest that two
// levels have is 7 of a step.
func TestSqueezeOfLeastAndGreatest(t *testing.T) {
	for step := range 49 {
		for _, last := range nearEnds() {
			checkSqueezed(t, coder(last, step), last, 0)
			if last < 32767 {
				checkSqueezed(t, coder(last, step), last+1, 0)
			}
			if last > -32767 {
				checkSqueezed(t, coder(last, step), last-1, 8)
			}
		}
		checkSqueezed(t, coder(-32767, step), 32767, 7)
		checkSqueezed(t, coder(32767, step), -32767, 15)
		checkSqueezed(t, coder(0, step), 32767, 7)
		checkSqueezed(t, coder(0, step), -32767, 15)
	}
}

// P11: every difference that is not far past the greatest number, at every step.
func TestSqueezeOfEveryDifference(t *testing.T) {
	for step := range 49 {
		for _, last := range []int{0, 31000, -31000} {
			for level := max(last-2200, -32767); level <= min(last+2200, 32767); level++ {
				c := coder(last, step)
				checkSqueezed(t, c, level, secondNumber(c, level))
			}
		}
	}
}

// drawVoice draws n levels of one of several kinds: quite still, anything, from
// end to end, hills, and steps of a few sizes.
func drawVoice(r *drawn, n int) []int {
	kind, loud := r.below(5), 1+r.below(32767)
	level := r.below(65535) - 32767
	var list []int
	for i := range n {
		switch kind {
		case 0:
			level = r.below(9) - 4
		case 1:
			level = r.below(2*loud+1) - loud
		case 2:
			level = 32767 * (1 - i/(1+loud%13)%2*2)
		case 3:
			level = sizeOf((i*loud/8)%131068-65534) - 32767
		case 4:
			level = max(-32767, min(level+(r.below(15)-7)*(loud%600), 32767))
		}
		list = append(list, level)
	}
	return list
}

func drawCoder(r *drawn) impl.Coder {
	if r.below(4) == 0 {
		return coder((r.below(3)-1)*32767, r.below(2)*48)
	}
	return coder(r.below(65535)-32767, r.below(49))
}

// P11: Expand of Squeeze ends with the coder that Squeeze ends with, whatever
// the voice.
func TestVoicesEndWithTheirCoder(t *testing.T) {
	r := drawn(1105)
	used := map[int]int{}
	for range 6000 {
		c, list := drawCoder(&r), drawVoice(&r, r.below(impl.MaxLevels+1))
		numbers, levels, want := secondVoice(c, list)
		checkVoice(t, c, list, numbers, levels, want)
		got, end, _ := impl.Squeeze(c, list)
		told, after, ok := impl.Expand(c, got)
		if !ok || after != end || len(told) != len(list) || len(told) > 0 && told[len(told)-1] != end.Last {
			t.Fatalf("%v from %v: %v, then %v, %v", list, c, end, after, ok)
		}
		for _, number := range got {
			used[number]++
		}
	}
	for number := range 16 {
		if used[number] < 1000 {
			t.Errorf("%d came %d times only", number, used[number])
		}
	}
}

// P11: numbers that no voice would be squeezed to are told too.
func TestExpandOfDrawnNumbers(t *testing.T) {
	r := drawn(1106)
	for range 4000 {
		c := drawCoder(&r)
		at := c
		var numbers, levels []int
		for range r.below(impl.MaxLevels + 1) {
			number := r.below(16)
			at = secondCoder(at, number)
			numbers, levels = append(numbers, number), append(levels, at.Last)
		}
		got, end, ok := impl.Expand(c, numbers)
		if !ok || !slices.Equal(got, levels) || end != at {
			t.Fatalf("%v from %v: %v, %v, %v", numbers, c, got, end, ok)
		}
	}
}

// P11: a voice in two parts is squeezed and told as it is whole.
func TestVoicesInTwoParts(t *testing.T) {
	r := drawn(1107)
	for range 600 {
		c, list := drawCoder(&r), drawVoice(&r, 1+r.below(impl.MaxLevels))
		at := r.below(len(list) + 1)
		whole, end, _ := impl.Squeeze(c, list)
		first, middle, _ := impl.Squeeze(c, list[:at])
		second, last, _ := impl.Squeeze(middle, list[at:])
		if !slices.Equal(append(first, second...), whole) || last != end {
			t.Fatalf("Squeeze of %v from %v, cut at %d", list, c, at)
		}
		told, end, _ := impl.Expand(c, whole)
		first, middle, _ = impl.Expand(c, whole[:at])
		second, last, _ = impl.Expand(middle, whole[at:])
		if !slices.Equal(append(first, second...), told) || last != end {
			t.Fatalf("Expand of %v from %v, cut at %d", whole, c, at)
		}
	}
}

// checkNoVoice wants nothing, the zero value and false.
func checkNoVoice(t *testing.T, why string, list []int, c impl.Coder, ok bool) {
	t.Helper()
	if ok || len(list) != 0 || c != (impl.Coder{}) {
		t.Errorf("%s: %v, %v, %v", why, list, c, ok)
	}
}

func TestSqueezeAndExpandWithWrongCoders(t *testing.T) {
	for _, c := range wrongCoders() {
		for _, list := range [][]int{nil, {}, {0}, {5, 7, 9}, make([]int, 30), make([]int, 300), make([]int, 301), {16}, {-32768}} {
			why := fmt.Sprintf("%v, %d levels", c, len(list))
			got, end, ok := impl.Squeeze(c, list)
			checkNoVoice(t, "Squeeze, "+why, got, end, ok)
			got, end, ok = impl.Expand(c, list)
			checkNoVoice(t, "Expand, "+why, got, end, ok)
		}
	}
}

// P21: the ends of Last and of Step are taken.
func TestCodersAtTheEnds(t *testing.T) {
	for _, c := range []impl.Coder{coder(32767, 0), coder(-32767, 0), coder(32767, 48), coder(-32767, 48), coder(0, 0), coder(0, 48)} {
		if got, end, ok := impl.Squeeze(c, nil); !ok || len(got) != 0 || end != c {
			t.Errorf("Squeeze(%v): %v, %v, %v", c, got, end, ok)
		}
		if got, end, ok := impl.Expand(c, nil); !ok || len(got) != 0 || end != c {
			t.Errorf("Expand(%v): %v, %v, %v", c, got, end, ok)
		}
		list := levelsWith(impl.MaxLevels, 0, 32767)
		numbers, levels, end := secondVoice(c, list)
		checkVoice(t, c, list, numbers, levels, end)
	}
}

// P11, P21: MaxLevels are taken, one more is refused.
func TestVoiceLimits(t *testing.T) {
	for n, want := range map[int]bool{0: true, 1: true, 299: true, 300: true, 301: false, 302: false, 1000: false} {
		for _, number := range []int{0, 5, 15} {
			list := slices.Repeat([]int{number}, n)
			got, end, ok := impl.Squeeze(coder(3, 4), list)
			if ok != want || want && len(got) != n {
				t.Errorf("Squeeze of %d: %d, %v", n, len(got), ok)
			} else if !want {
				checkNoVoice(t, "Squeeze of too many", got, end, ok)
			}
			got, end, ok = impl.Expand(coder(3, 4), list)
			if ok != want || want && len(got) != n {
				t.Errorf("Expand of %d: %d, %v", n, len(got), ok)
			} else if !want {
				checkNoVoice(t, "Expand of too many", got, end, ok)
			}
		}
	}
}

// foursWith are n numbers of four bits, with another one at a place.
func foursWith(n int, place int, number int) []int {
	list := make([]int, n)
	for i := range list {
		list[i] = i * 7 % 16
	}
	list[place] = number
	return list
}

// P11, P21: one wrong level or number, wherever it stands, is refused; the ends
// are taken.
func TestWrongListsAreRefused(t *testing.T) {
	for _, n := range []int{1, 2, 30, 300} {
		for _, place := range []int{0, n / 2, n - 1} {
			for _, level := range noLevels() {
				got, end, ok := impl.Squeeze(coder(5, 9), levelsWith(n, place, level))
				checkNoVoice(t, fmt.Sprintf("Squeeze, %d at %d of %d", level, place, n), got, end, ok)
			}
			for _, number := range noFours() {
				got, end, ok := impl.Expand(coder(5, 9), foursWith(n, place, number))
				checkNoVoice(t, fmt.Sprintf("Expand, %d at %d of %d", number, place, n), got, end, ok)
			}
			for _, level := range []int{32767, -32767} {
				if got, _, ok := impl.Squeeze(coder(5, 9), levelsWith(n, place, level)); !ok || len(got) != n {
					t.Errorf("Squeeze, %d at %d of %d: %v, %v", level, place, n, got, ok)
				}
			}
			for number := range 16 {
				if got, _, ok := impl.Expand(coder(5, 9), foursWith(n, place, number)); !ok || len(got) != n {
					t.Errorf("Expand, %d at %d of %d: %v, %v", number, place, n, got, ok)
				}
			}
		}
	}
}
