package tests

import (
	"fmt"
	"slices"
	"testing"

	"loop.example/g00052/impl"
)

// oneWave are the levels of a frame, and waveFrame what they come to from
// waveCoder on; waveTold are the levels that the frame tells.
var (
	waveCoder = impl.Coder{Last: 5, Step: 9}
	waveEnd   = impl.Coder{Last: -1769, Step: 48}
	oneWave   = [30]int{
		0, 1663, 3254, 4702, 5945, 6928, 7608, 7956, 7956, 7608, 6928, 5945, 4702, 3254, 1663,
		0, -1663, -3254, -4702, -5945, -6928, -7608, -7956, -7956, -7608, -6928, -5945, -4702, -3254, -1663,
	}
	waveFrame = [16]byte{9, 0x87, 0x77, 0x77, 0x77, 0x69, 0xac, 0xcc, 0xdd, 0xdd, 0xdc, 0xba, 0x90, 0x14, 0x44, 0x45}
	waveTold  = [30]int{
		3, 40, 133, 346, 812, 1824, 4007, 6190, 8082, 7646, 6985, 5903, 4593, 3283, 1682,
		81, -1520, -3121, -4722, -6032, -7050, -7711, -8071, -7962, -7665, -6854, -5871, -4680, -3370, -1769,
	}
)

// foursOf are the numbers of a frame, told by their names in sixteens.
func foursOf(frame [16]byte) []int {
	var list []int
	for _, digit := range fmt.Sprintf("%x", frame[1:]) {
		if digit >= 'a' {
			digit -= 'a' - '9' - 1
		}
		list = append(list, int(digit-'0'))
	}
	return list
}

func TestKnownFrame(t *testing.T) {
	if frame, end, ok := impl.FrameOf(waveCoder, oneWave[:]); !ok || frame != waveFrame || end != waveEnd {
		t.Errorf("%x, %v, %v", frame, end, ok)
	}
	if list, end, ok := impl.OfFrame(waveCoder.Last, waveFrame); !ok || !slices.Equal(list, waveTold[:]) || end != waveEnd {
		t.Errorf("%v, %v, %v", list, end, ok)
	}
}

// P11: every half of every byte, at a level from where nothing is cut, and at an
// end.
func TestOfKnownFrame(t *testing.T) {
	frame := [16]byte{0, 0x4f, 0x01, 0x23, 0x45, 0x67, 0x89, 0xab, 0xcd, 0xef, 0xf0, 0x0f, 0xff, 0x77, 0x80, 0x08}
	list, end, ok := impl.OfFrame(0, frame)
	if !ok || end != coder(-3835, 44) || !slices.Equal(list, []int{
		7, -9, -6, 1, 13, 28, 46, 73, 125, 240, 223, 177, 106, 18, -86, -242, -516, -1081, -2307, -2162,
		-2030, -3833, -6016, -8199, -6016, -3833, -3978, -3846, -3726, -3835,
	}) {
		t.Errorf("%v, %v, %v", list, end, ok)
	}
	frame[0] = 48
	list, end, ok = impl.OfFrame(-32767, frame)
	if !ok || end != coder(-28403, 44) || !slices.Equal(list, []int{
		-31457, -32767, -32622, -32226, -31625, -30861, -29968, -28646, -26754, -24571, -24716, -25112, -25713, -26477, -27370,
		-28692, -30584, -32767, -32767, -32622, -32490, -32767, -32767, -32767, -30584, -28401, -28546, -28414, -28294, -28403,
	}) {
		t.Errorf("%v, %v, %v", list, end, ok)
	}
}

// P11: the first number of two is in the higher half.
func TestHalvesOfAFrame(t *testing.T) {
	frame, _, ok := impl.FrameOf(coder(0, 0), append([]int{7, 7, -100}, make([]int, 27)...))
	if !ok || frame[0] != 0 || frame[1] != 0x40 || frame[2]>>4 != 15 {
		t.Errorf("%x, %v", frame, ok)
	}
	for two, want := range map[byte][2]int{0x40: {7, 8}, 0x04: {0, 7}, 0x4f: {7, -9}, 0xf4: {-11, 11}, 0x00: {0, 0}, 0xff: {-11, -48}} {
		if list, _, ok := impl.OfFrame(0, [16]byte{0, two}); !ok || list[0] != want[0] || list[1] != want[1] {
			t.Errorf("%x: %v, %v", two, list, ok)
		}
	}
}

// checkOfFrame wants what Expand tells of the numbers in a frame.
func checkOfFrame(t *testing.T, last int, frame [16]byte) {
	t.Helper()
	want, wanted, _ := impl.Expand(coder(last, int(frame[0])), foursOf(frame))
	got, end, ok := impl.OfFrame(last, frame)
	if !ok || len(got) != impl.FrameLevels || !slices.Equal(got, want) || end != wanted {
		t.Fatalf("%d, %x: %v, %v, %v; not %v, %v", last, frame, got, end, ok, want, wanted)
	}
}

// P11: every byte at every place.
func TestOfFrameOfEveryByte(t *testing.T) {
	for place := 1; place < 16; place++ {
		for value := range 256 {
			frame := waveFrame
			frame[place] = byte(value)
			checkOfFrame(t, 5, frame)
			empty := [16]byte{24}
			empty[place] = byte(value)
			checkOfFrame(t, -100, empty)
		}
	}
}

// P11, P21: a first byte of up to 48 is a Step; above it the frame can't be
// opened.
func TestOfFrameOfEveryStep(t *testing.T) {
	for step := range 256 {
		frame := waveFrame
		frame[0] = byte(step)
		for _, last := range []int{0, 5, 32767, -32767} {
			if step <= 48 {
				checkOfFrame(t, last, frame)
				continue
			}
			list, end, ok := impl.OfFrame(last, frame)
			checkNoVoice(t, fmt.Sprintf("a first byte of %d", step), list, end, ok)
		}
	}
}

// P11, P21: the ends of last.
func TestOfFrameOfNoLevel(t *testing.T) {
	for _, last := range nearEnds() {
		checkOfFrame(t, last, waveFrame)
	}
	for _, last := range noLevels() {
		for _, step := range []byte{0, 9, 48, 49, 255} {
			frame := waveFrame
			frame[0] = step
			list, end, ok := impl.OfFrame(last, frame)
			checkNoVoice(t, fmt.Sprintf("%d, a first byte of %d", last, step), list, end, ok)
		}
	}
}

// checkFrame wants a frame of the Step and the numbers that Squeeze has, which
// brings what Expand of these brings and ends with the same coder.
func checkFrame(t *testing.T, c impl.Coder, list []int) ([16]byte, impl.Coder) {
	t.Helper()
	numbers, levels, want := secondVoice(c, list)
	frame, end, ok := impl.FrameOf(c, list)
	if !ok || int(frame[0]) != c.Step || !slices.Equal(foursOf(frame), numbers) || end != want {
		t.Fatalf("FrameOf(%v, %v): %x, %v, %v; not %v, %v", c, list, frame, end, ok, numbers, want)
	}
	told, after, ok := impl.OfFrame(c.Last, frame)
	if !ok || !slices.Equal(told, levels) || after != want {
		t.Fatalf("OfFrame(%d, %x): %v, %v, %v; not %v, %v", c.Last, frame, told, after, ok, levels, want)
	}
	return frame, end
}

// P11: a frame ends with the coder that its voice ends with.
func TestFramesEndWithTheirCoder(t *testing.T) {
	r := drawn(1108)
	for range 20000 {
		checkFrame(t, drawCoder(&r), drawVoice(&r, impl.FrameLevels))
	}
	for step := range 49 {
		for _, last := range nearEnds() {
			checkFrame(t, coder(last, step), oneWave[:])
		}
	}
}

// P11: frame by frame a voice is the same as whole.
func TestFrameByFrame(t *testing.T) {
	r := drawn(1109)
	for range 500 {
		c, list := drawCoder(&r), drawVoice(&r, impl.MaxLevels)
		numbers, end, _ := impl.Squeeze(c, list)
		levels, _, _ := impl.Expand(c, numbers)
		var fours, told []int
		at, back := c, c
		for i := 0; i < len(list); i += impl.FrameLevels {
			frame, next := checkFrame(t, at, list[i:i+impl.FrameLevels])
			more, after, _ := impl.OfFrame(back.Last, frame)
			fours, told = append(fours, foursOf(frame)...), append(told, more...)
			at, back = next, after
		}
		if !slices.Equal(fours, numbers) || !slices.Equal(told, levels) || at != end || back != end {
			t.Fatalf("%v from %v: %v and %v, not %v", list, c, at, back, end)
		}
	}
}

func checkNoFrame(t *testing.T, why string, c impl.Coder, list []int) {
	t.Helper()
	if frame, end, ok := impl.FrameOf(c, list); ok || frame != [16]byte{} || end != (impl.Coder{}) {
		t.Errorf("%s: %x, %v, %v", why, frame, end, ok)
	}
}

// P11, P21: a frame has just FrameLevels levels.
func TestFrameSizes(t *testing.T) {
	for _, n := range []int{0, 1, 2, 15, 28, 29, 31, 32, 59, 60, 299, 300, 301, 1000} {
		checkNoFrame(t, fmt.Sprintf("%d levels", n), waveCoder, slices.Repeat([]int{7}, n))
	}
	checkNoFrame(t, "nil", waveCoder, nil)
	checkFrame(t, waveCoder, slices.Repeat([]int{7}, 30))
}

// P11, P21: wrong coders and wrong levels make no frame, ends do.
func TestFramesOfWrongOnes(t *testing.T) {
	for _, c := range wrongCoders() {
		checkNoFrame(t, fmt.Sprint(c), c, oneWave[:])
		checkNoFrame(t, fmt.Sprint(c, " and 29 levels"), c, oneWave[:29])
	}
	for place := range 30 {
		for _, level := range noLevels() {
			checkNoFrame(t, fmt.Sprintf("%d at %d", level, place), waveCoder, levelsWith(30, place, level))
		}
		for _, level := range []int{32767, -32767} {
			checkFrame(t, waveCoder, levelsWith(30, place, level))
		}
	}
	for _, c := range []impl.Coder{coder(32767, 0), coder(-32767, 0), coder(32767, 48), coder(-32767, 48)} {
		checkFrame(t, c, oneWave[:])
	}
}
