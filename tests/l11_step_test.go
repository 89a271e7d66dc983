package tests

import (
	"os"
	"os/exec"
	"slices"
	"strings"
	"sync"
	"testing"

	"loop.example/g00052/impl"
)

// stepTable are the sizes of all steps, written out.
var stepTable = [49]int{
	7, 8, 9, 10, 12, 14, 16, 18, 20, 23,
	26, 29, 32, 36, 40, 45, 50, 56, 62, 69,
	76, 84, 93, 103, 114, 126, 139, 153, 169, 186,
	205, 226, 249, 274, 302, 333, 367, 404, 445, 490,
	540, 595, 655, 721, 794, 874, 962, 1059, 1165,
}

// noSteps are one past each end, and far off.
func noSteps() []int {
	return append([]int{-1, 49, -2, 50, -48, -49, 97, 98, 255, 256, 257}, farNumbers...)
}

// allSteps asks for the size of every step that there is, in order.
func allSteps() []int {
	var sizes []int
	for step := range 49 {
		sizes = append(sizes, impl.StepSize(step))
	}
	return sizes
}

// P11: the size of each step.
func TestStepSizes(t *testing.T) {
	for step, want := range stepTable {
		if got := impl.StepSize(step); got != want {
			t.Errorf("step %d: %d, not %d", step, got, want)
		}
		if step > 0 && stepTable[step] != stepTable[step-1]*11/10+1 {
			t.Errorf("the table is wrong at %d", step)
		}
	}
}

// P21: one past each end, and far off.
func TestNoStepSizes(t *testing.T) {
	for _, step := range noSteps() {
		if got := impl.StepSize(step); got != 0 {
			t.Errorf("step %d: %d", step, got)
		}
	}
}

// P11: steps are the same however often and in whichever order they are asked
// for, with others and wrong ones between.
func TestStepSizesInAnyOrder(t *testing.T) {
	r := drawn(11)
	wrong := noSteps()
	for range 20000 {
		step := r.below(49)
		if got := impl.StepSize(step); got != stepTable[step] {
			t.Fatalf("step %d: %d, not %d", step, got, stepTable[step])
		}
		if got := impl.StepSize(wrong[r.below(len(wrong))]); got != 0 {
			t.Fatalf("a wrong one behind step %d: %d", step, got)
		}
	}
	for step := 48; step >= 0; step-- {
		if first, second := impl.StepSize(step), impl.StepSize(step); first != stepTable[step] || second != first {
			t.Errorf("step %d, downwards: %d, %d", step, first, second)
		}
	}
}

// firstCalls are calls that a program may begin with, and whether they answer
// as they do later on.
func firstCalls() map[string]func() bool {
	return map[string]func() bool{
		"the first step":  func() bool { return impl.StepSize(0) == 7 },
		"the last step":   func() bool { return impl.StepSize(48) == 1165 },
		"a middle step":   func() bool { return impl.StepSize(24) == 114 },
		"one past":        func() bool { return impl.StepSize(49) == 0 },
		"one below":       func() bool { return impl.StepSize(-1) == 0 },
		"no level at all": func() bool { _, c, ok := impl.Squeeze(impl.Coder{Step: 9}, nil); return ok && c.Step == 9 },
		"squeeze": func() bool {
			list, c, ok := impl.Squeeze(impl.Coder{Step: 10}, []int{26})
			return ok && slices.Equal(list, []int{4}) && c == impl.Coder{Last: 29, Step: 12}
		},
		"expand": func() bool {
			list, c, ok := impl.Expand(impl.Coder{Step: 10}, []int{4})
			return ok && slices.Equal(list, []int{29}) && c == impl.Coder{Last: 29, Step: 12}
		},
		"a frame": func() bool {
			frame, c, ok := impl.FrameOf(impl.Coder{Step: 48}, make([]int, 30))
			return ok && frame[0] == 48 && frame[1] == 0x08 && sizeOf(c.Last) < 100
		},
		"of a frame": func() bool {
			list, _, ok := impl.OfFrame(0, [16]byte{48, 0x08})
			return ok && len(list) == 30 && list[0] == 145 && list[1] == 13
		},
		"several at once": stepsAtOnce,
	}
}

// stepsAtOnce has several ask at the same time.
func stepsAtOnce() bool {
	var all sync.WaitGroup
	told := make([][]int, 8)
	for one := range told {
		all.Go(func() { told[one] = allSteps() })
	}
	all.Wait()
	return !slices.ContainsFunc(told, func(sizes []int) bool { return !slices.Equal(sizes, stepTable[:]) })
}

// P11: sizes are made at the first time, whichever call that is: each of them
// begins a process of its own, and then asks for all sizes.
func TestVoiceBeginsWithAnyCall(t *testing.T) {
	const named = "VOICE_FIRST_CALL"
	if name := os.Getenv(named); name != "" {
		if !firstCalls()[name]() || !slices.Equal(allSteps(), stepTable[:]) {
			t.Errorf("%s: another answer as the first call", name)
		}
		return
	}
	for name, call := range firstCalls() {
		begin := exec.Command(os.Args[0], "-test.run=^TestVoiceBeginsWithAnyCall$", "-test.v")
		begin.Env = append(os.Environ(), named+"="+name)
		told, err := begin.CombinedOutput()
		if err != nil || !strings.Contains(string(told), "--- PASS: TestVoiceBeginsWithAnyCall") {
			t.Errorf("%s: %v\n%s", name, err, told)
		}
		if !call() {
			t.Errorf("%s: another answer as a later call", name)
		}
	}
}
