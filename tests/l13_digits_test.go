package tests

import (
	"slices"
	"strings"
	"testing"

	"loop.example/g00052/impl"
)

const namesOfDigits = "123A456B789C*0#D"

// windowsOf writes windows a letter each: a digit's name is a window of it (of
// size 3000, begun at a place of the circle that goes on with the windows), and
// a dot one of silence.
func windowsOf(windows string) []int {
	var list []int
	for i, name := range windows {
		if name == '.' {
			list = append(list, make([]int, 128)...)
		} else {
			list = append(list, secondTone(strings.IndexRune(namesOfDigits, name), 3000, i*37%256, 128)...)
		}
	}
	return list
}

// toldByRuns cuts windows into runs of the same: each run of two or more tells
// its digit once.
func toldByRuns(windows string) string {
	told := ""
	for len(windows) > 0 {
		rest := strings.TrimLeft(windows, windows[:1])
		if windows[0] != '.' && len(windows)-len(rest) >= 2 {
			told += windows[:1]
		}
		windows = rest
	}
	return told
}

func checkDigits(t *testing.T, why string, list []int, want string) {
	t.Helper()
	if got, ok := impl.Digits13(list); !ok || got != want {
		t.Errorf("%s: %q and %t, not %q", why, got, ok, want)
	}
}

func checkNoDigits(t *testing.T, why string, list []int) {
	t.Helper()
	if got, ok := impl.Digits13(list); ok || got != "" {
		t.Errorf("%s: %q and %t", why, got, ok)
	}
}

// P13: known windows.
func TestKnownDigits(t *testing.T) {
	for windows, want := range map[string]string{
		"":         "",
		".":        "",
		"5":        "",
		"..":       "",
		"5.":       "",
		".5":       "",
		"55":       "5",
		"56":       "",
		"555":      "5",
		"5555":     "5",
		"55555555": "5",
		".55":      "5",
		"55.":      "5",
		"5.5":      "",
		"55.55":    "55",
		"55.5":     "5",
		"5.55":     "5",
		"55655":    "55",
		"5565":     "5",
		"5655":     "5",
		"55665":    "56",
		"556655":   "565",
		"566":      "6",
		"5665":     "6",
		"55..55":   "55",
		"55.55.55": "555",
		"11223344": "1234",
		"AABBCCDD": "ABCD",
		"55667788": "5678",
		"9900**##": "90*#",
		"12345678": "",
		"1223":     "2",
		"1223344D": "234",
		".*.*.*.*": "",
		"55555.66": "56",
		".5555CC.": "5C",
	} {
		checkDigits(t, windows, windowsOf(windows), want)
		if got := toldByRuns(windows); got != want {
			t.Errorf("the second telling of %s is wrong: %q", windows, got)
		}
	}
}

// P13: each digit by its name, in one window, two, three and four.
func TestDigitsByTheirNames(t *testing.T) {
	for digit, name := range namesOfDigits {
		for n := range 9 {
			list, _ := impl.Tone13(digit, 2500, 17*digit, 128*n)
			want := ""
			if n >= 2 {
				want = string(name)
			}
			checkDigits(t, string(name), list, want)
		}
	}
}

// P13: all few windows of silence and three digits.
func TestDigitsOfAllFewWindows(t *testing.T) {
	for _, letters := range []string{".1", ".15", ".#D"} {
		all := []string{""}
		for n := range 9 {
			for _, windows := range all {
				if n < 6 || len(letters) == 2 {
					checkDigits(t, windows, windowsOf(windows), toldByRuns(windows))
				}
			}
			var longer []string
			for _, windows := range all {
				for _, letter := range letters {
					longer = append(longer, windows+string(letter))
				}
			}
			all = longer
		}
	}
}

// P13: many drawn windows, with what is left at the end.
func TestDigitsOfDrawnWindows(t *testing.T) {
	r := drawn(1309)
	for range 1500 {
		letters := []string{".1", "12", ".159D", namesOfDigits, "." + namesOfDigits}[r.below(5)]
		windows := ""
		for range r.below(8) {
			windows += string(letters[r.below(len(letters))])
			if r.below(2) == 0 {
				windows += windows[len(windows)-1:]
			}
		}
		windows = windows[:min(len(windows), 8)]
		list := windowsOf(windows)
		if len(windows) < 8 {
			rest := windowsOf(string(namesOfDigits[r.below(16)]))
			list = append(list, rest[:r.below(128)]...)
		}
		checkDigits(t, windows, list, toldByRuns(windows))
	}
}

// P13: what is left at the end does not count, however long it is.
func TestWhatIsLeftAtTheEnd(t *testing.T) {
	long := secondTone(8, 3000, 5, 1024)
	for n := range 1025 {
		want := ""
		if n >= 256 {
			want = "7"
		}
		checkDigits(t, "some levels of 7", long[:n], want)
	}
}

// P13: the windows lie on their grid: a tone of three windows or more is told
// once wherever it begins, with noise too; one of less than a window never is.
func TestDigitsBegunAnywhere(t *testing.T) {
	r := drawn(1310)
	for digit := range 16 {
		want := namesOfDigits[digit : digit+1]
		for ahead := range 128 {
			size := 200 + r.below(15000)
			list := append(make([]int, ahead), secondTone(digit, size, r.below(256), 384)...)
			list = append(list, make([]int, 256)...)
			checkDigits(t, want, list, want)
			checkDigits(t, want, addedTo(list, drawLevels(&r, len(list), size/20)), want)
			short := append(make([]int, ahead), secondTone(digit, size, r.below(256), 127)...)
			checkDigits(t, "short", append(short, make([]int, 256)...), "")
		}
	}
}

// P13: silence, one tone alone and faint levels tell none.
func TestNothingIsTold(t *testing.T) {
	r := drawn(1311)
	checkDigits(t, "silence", make([]int, 1024), "")
	checkDigits(t, "faint", drawLevels(&r, 1024, 5), "")
	for digit := range 16 {
		checkDigits(t, "faint", secondTone(digit, 15, 3, 1024), "")
		for _, step := range []int{stepsOfRows[digit/4], stepsOfColumns[digit%4]} {
			checkDigits(t, "one tone", slices.Repeat(mixOf(tone{step, 9000, 3}), 8), "")
		}
	}
}

// P13, P21: MaxTone levels, and one more.
func TestDigitsSizes(t *testing.T) {
	eight := windowsOf("1122.33.")
	checkDigits(t, "1024", eight, "123")
	checkDigits(t, "1023", eight[:1023], "123")
	for _, more := range []int{1, 2, 127, 128, 1024, 9000} {
		checkNoDigits(t, "more than 1024", append(slices.Clone(eight), make([]int, more)...))
		checkNoDigits(t, "more than 1024 of silence", make([]int, 1024+more))
	}
	checkDigits(t, "nothing", nil, "")
	checkDigits(t, "nothing", []int{}, "")
}

// P13: a level that is none, at every place, also in what is left at the end.
func TestDigitsOfNoLevels(t *testing.T) {
	for place := range 1024 {
		for i, level := range noLevels() {
			if place < 130 || i == place%len(noLevels()) {
				list := windowsOf("1122.33")
				list = append(list, make([]int, 100)...)
				at := place % len(list)
				list[at] = level
				checkNoDigits(t, "no level", list)
			}
		}
	}
	for _, n := range []int{1, 2, 127, 128, 129, 1023, 1024} {
		for _, level := range noLevels() {
			checkNoDigits(t, "no level at the end", levelsWith(n, n-1, level))
			checkNoDigits(t, "no level at the front", levelsWith(n, 0, level))
		}
		for _, level := range []int{-32767, 32767} {
			checkDigits(t, "a level at the end", levelsWith(n, n-1, level), "")
		}
	}
}
