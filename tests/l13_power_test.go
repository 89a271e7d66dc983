package tests

import (
	"slices"
	"testing"

	"loop.example/g00052/impl"
)

// wholesBelow is how many Wholes lie wholly below n: a division goes towards 0,
// so what is left of it tells whether one too few was taken away.
func wholesBelow(n int) int {
	wholes := n / impl.Whole
	if n-wholes*impl.Whole < 0 {
		wholes--
	}
	return wholes
}

// secondPower goes along the circle, a quarter behind for y.
func secondPower(list []int, step int) int {
	x, y, at := 0, 0, uint8(0)
	for _, level := range list {
		x += level * circleTable[at]
		y += level * circleTable[at-64]
		at += uint8(step)
	}
	return wholesBelow(x)*wholesBelow(x) + wholesBelow(y)*wholesBelow(y)
}

func checkPower(t *testing.T, list []int, step int, want int) {
	t.Helper()
	if got, ok := impl.Power13(list, step); !ok || got != want {
		t.Errorf("Power13(%v, %d): %d and %t, not %d", list, step, got, ok, want)
	}
}

func checkNoPower(t *testing.T, list []int, step int) {
	t.Helper()
	if got, ok := impl.Power13(list, step); ok || got != 0 {
		t.Errorf("Power13 of %d levels, %d: %d and %t", len(list), step, got, ok)
	}
}

// drawLevels are n levels of at most a size.
func drawLevels(r *drawn, n int, size int) []int {
	list := make([]int, n)
	for i := range list {
		list[i] = r.below(2*size+1) - size
	}
	return list
}

// P13: known powers, worked out by hand.
func TestKnownPowers(t *testing.T) {
	for _, c := range []struct {
		list []int
		step int
		want int
	}{
		{nil, 0, 0},
		{nil, 255, 0},
		{[]int{7}, 0, 49},
		{[]int{7}, 33, 49},
		{[]int{-7}, 33, 49},
		{[]int{32767}, 255, 32767 * 32767},
		{[]int{1000, 0, -1000, 0}, 64, 4000000},
		{[]int{0, 1000, 0, -1000}, 64, 4000000},
		{[]int{3, 4, 0, 0}, 64, 25},
		{[]int{3, -4}, 64, 25},
		{[]int{5, 6, 7}, 0, 18 * 18},
		{[]int{5, 6, 7}, 128, 6 * 6},
		{[]int{5, 6, 7}, 192, 2*2 + 6*6},
		// Just less than one of each is taken down to none ..
		{[]int{0, 1}, 1, 0},
		{[]int{0, 1}, 63, 0},
		// .. but just less than none to one less.
		{[]int{0, -1}, 1, 1 + 1},
		{[]int{0, -1}, 63, 1 + 1},
		{[]int{0, -1}, 255, 1 + 0},
		{[]int{0, 1}, 255, 0 + 1},
		{[]int{0, 1}, 65, 1 + 0},
		{[]int{0, -1}, 65, 0 + 1},
		{[]int{0, 1}, 129, 1 + 1},
		{[]int{0, 1000}, 32, 707*707 + 707*707},
		{[]int{0, -1000}, 32, 708*708 + 708*708},
		{[]int{0, 1000}, 96, 708*708 + 707*707},
		{[]int{0, 1000}, 160, 708*708 + 708*708},
		{[]int{0, 1000}, 224, 707*707 + 708*708},
	} {
		checkPower(t, c.list, c.step, c.want)
		if got := secondPower(c.list, c.step); got != c.want {
			t.Errorf("the second telling of %v is wrong: %d", c, got)
		}
	}
}

// P13: each level alone at a place, at every step.
func TestPowerOfOneLevel(t *testing.T) {
	for step := range 256 {
		for _, place := range []int{0, 1, 2, 63, 64, 126, 127} {
			for _, level := range []int{-32767, -1000, -2, -1, 0, 1, 2, 1000, 32767} {
				list := make([]int, place+1)
				list[place] = level
				checkPower(t, list, step, secondPower(list, step))
			}
		}
	}
}

// P13, P21: the greatest and the least level there is, at every place, and at
// all of them: nothing is too great to be summed.
func TestPowerOfGreatLevels(t *testing.T) {
	for place := range 128 {
		for _, level := range []int{-32767, 32767} {
			list := levelsWith(128, place, level)
			for _, step := range []int{0, 12, 22, 64, 128, 255} {
				checkPower(t, list, step, secondPower(list, step))
			}
		}
	}
	checkPower(t, slices.Repeat([]int{32767}, 128), 0, 128*32767*128*32767)
	checkPower(t, slices.Repeat([]int{-32767}, 128), 0, 128*32767*128*32767)
	checkPower(t, slices.Repeat([]int{32767, -32767}, 64), 128, 128*32767*128*32767)
	checkPower(t, slices.Repeat([]int{32767, 32767, -32767, -32767}, 32), 64, 2*64*32767*64*32767)
	for step := range 256 {
		list := make([]int, 128)
		for i := range list {
			list[i] = 32767
			if secondWave(i*step) < 0 {
				list[i] = -32767
			}
		}
		checkPower(t, list, step, secondPower(list, step))
		for i := range list {
			list[i] = -list[i]
		}
		checkPower(t, list, step, secondPower(list, step))
	}
}

// P13: many drawn lists, of every length and step.
func TestDrawnPowers(t *testing.T) {
	r := drawn(1302)
	for n := range 129 {
		for range 40 {
			list, step := drawLevels(&r, n, []int{1, 9, 1000, 32767}[r.below(4)]), r.below(256)
			checkPower(t, list, step, secondPower(list, step))
		}
	}
	for step := range 256 {
		list := drawLevels(&r, 128, 3)
		checkPower(t, list, step, secondPower(list, step))
	}
}

// P13: a tone has its power at its own steps, and next to none at the others.
func TestPowerOfTones(t *testing.T) {
	for digit := range 16 {
		list, _ := impl.Tone13(digit, 1000, 0, 128)
		for _, step := range slices.Concat(stepsOfRows, stepsOfColumns) {
			power, _ := impl.Power13(list, step)
			own := step == stepsOfRows[digit/4] || step == stepsOfColumns[digit%4]
			if own && sizeOf(power-64000*64000) > 64000*64 || !own && power > 1000 {
				t.Errorf("digit %d, step %d: %d", digit, step, power)
			}
		}
	}
}

// P13, P21: Window13 levels, and one more.
func TestPowerSizes(t *testing.T) {
	for n := range 129 {
		list := slices.Repeat([]int{100}, n)
		checkPower(t, list, 0, 100*n*100*n)
	}
	for _, n := range []int{129, 130, 256, 1024, 5000} {
		for _, step := range []int{0, 64, 255, 256} {
			checkNoPower(t, make([]int, n), step)
			checkNoPower(t, slices.Repeat([]int{100}, n), step)
		}
	}
}

// P13, P21: steps at and beside their ends.
func TestPowerSteps(t *testing.T) {
	list := levelsWith(128, 5, 777)
	for step := range 256 {
		checkPower(t, list, step, secondPower(list, step))
	}
	for _, step := range append([]int{-1, -2, -12, -64, -255, -256, 256, 257, 268, 320, 512}, farNumbers...) {
		checkNoPower(t, list, step)
		checkNoPower(t, nil, step)
	}
}

// P13: a level that is none, at every place.
func TestPowerOfNoLevels(t *testing.T) {
	for _, n := range []int{1, 2, 127, 128} {
		for place := range n {
			for _, level := range noLevels() {
				checkNoPower(t, levelsWith(n, place, level), 12)
			}
		}
	}
	for _, level := range noLevels() {
		checkNoPower(t, []int{level}, 256)
		checkNoPower(t, slices.Repeat([]int{level}, 129), 0)
	}
}
