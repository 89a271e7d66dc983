package tests

import (
	"slices"
	"strings"
	"testing"

	"loop.example/g00052/impl"
)

// letters writes y for who is let in, n for who is not.
func letters(admitted []bool) string {
	var b strings.Builder
	for _, in := range admitted {
		if in {
			b.WriteByte('y')
		} else {
			b.WriteByte('n')
		}
	}
	return b.String()
}

// admitByLeft counts down what is left of the room, one by one.
func admitByLeft(have []int, room int, asks []int) string {
	left := room
	for _, size := range have {
		left -= size
	}
	text := ""
	for _, size := range asks {
		if left < size {
			text += "n"
			continue
		}
		left -= size
		text += "y"
	}
	return text
}

func checkAdmit(t *testing.T, have []int, room int, asks []int, want string) {
	t.Helper()
	if got, ok := impl.Admit(have, room, asks); !ok || letters(got) != want {
		t.Errorf("Admit(%d, %d, %d): %s and %t, not %s", have, room, asks, letters(got), ok, want)
	}
}

func checkNoAdmit(t *testing.T, have []int, room int, asks []int) {
	t.Helper()
	if got, ok := impl.Admit(have, room, asks); ok || len(got) != 0 {
		t.Errorf("Admit(%d, %d, %d): %s and %t", have, room, asks, letters(got), ok)
	}
}

// P16: known asks.
func TestKnownAdmits(t *testing.T) {
	for _, c := range []struct {
		have string
		room int
		asks string
		want string
	}{
		{"", 0, "", ""},
		{"", 100, "", ""},
		{"5", 0, "", ""},
		{"", 0, "1", "n"},
		{"", 1, "1", "y"},
		{"", 1, "1 1", "yn"},
		{"", 2, "1 1", "yy"},
		{"", 1000, "1000", "y"},
		{"", 999, "1000", "n"},
		{"40", 100, "30 40 30", "yny"},
		// Room that is met just so, and passed by one.
		{"40", 100, "60", "y"},
		{"40", 100, "61", "n"},
		{"40", 100, "60 1", "yn"},
		{"40", 100, "59 1", "yy"},
		{"40", 100, "59 1 1", "yyn"},
		{"40 60", 100, "1", "n"},
		{"40 59", 100, "1", "y"},
		{"40 59", 100, "2 1", "ny"},
		// What does not fit takes nothing from those behind it.
		{"", 10, "11 10", "ny"},
		{"", 10, "11 12 13 4 7 6 1", "nnnynyn"},
		{"", 10, "5 6 5", "yny"},
		{"", 10, "5 6 6 4 2 1", "ynnyny"},
		// More is had than there is room for.
		{"40 70", 100, "1 1", "nn"},
		{"1", 0, "1", "n"},
		{"1000 1000", 5, "1 2 3", "nnn"},
	} {
		have, asks := numbersOf(c.have), numbersOf(c.asks)
		checkAdmit(t, have, c.room, asks, c.want)
		if told := admitByLeft(have, c.room, asks); told != c.want {
			t.Errorf("the second telling of %v is wrong: %s", c, told)
		}
	}
}

// P16: all asks of few sizes.
func TestAdmitOfAllSmallAsks(t *testing.T) {
	for n := range 6 {
		everyMeasures(1, n, 4, func(lists [][]int) {
			asks := slices.Clone(lists[0])
			for i := range asks {
				asks[i] = 1 - asks[i]
			}
			for _, have := range [][]int{nil, {1}, {2, 1}, {1, 4}} {
				for room := range 14 {
					checkAdmit(t, have, room, asks, admitByLeft(have, room, asks))
				}
			}
		})
	}
}

func drawAsks(r *drawn, n, most int) []int {
	var asks []int
	for range n {
		asks = append(asks, 1+r.below(most))
	}
	return asks
}

func sumOf(list []int) int {
	sum := 0
	for _, n := range list {
		sum += n
	}
	return sum
}

// P16: drawn asks: what is let in fits, and what is not would not have fitted.
func TestDrawnAdmits(t *testing.T) {
	r := drawn(1610)
	told := map[byte]int{}
	for range 30000 {
		most := 1 + r.below(1000)
		have, asks := drawAsks(&r, r.below(61), most), drawAsks(&r, r.below(61), most)
		room := min(100000, r.below(1+sumOf(have)+sumOf(asks)))
		admitted, ok := impl.Admit(have, room, asks)
		want := admitByLeft(have, room, asks)
		if !ok || letters(admitted) != want {
			t.Fatalf("Admit(%d, %d, %d): %s and %t, not %s", have, room, asks, letters(admitted), ok, want)
		}
		taken := sumOf(have)
		for i, in := range admitted {
			if in != (taken+asks[i] <= room) {
				t.Fatalf("Admit(%d, %d, %d): %s, at %d", have, room, asks, letters(admitted), i)
			}
			if in {
				taken += asks[i]
			}
			told[want[i]]++
		}
	}
	if told['y'] < 1000 || told['n'] < 1000 {
		t.Error("too few are let in, or not", told)
	}
}

// P16, P21: at most 60 asks, and at most 60 that are had.
func TestAdmitSizes(t *testing.T) {
	r := drawn(1611)
	for n := range 130 {
		list, other := drawAsks(&r, n, 1000), drawAsks(&r, 5, 1000)
		for _, room := range []int{0, 500, 30000, 100000} {
			if n <= 60 {
				checkAdmit(t, list, room, other, admitByLeft(list, room, other))
				checkAdmit(t, other, room, list, admitByLeft(other, room, list))
				checkAdmit(t, list, room, list, admitByLeft(list, room, list))
				checkAdmit(t, nil, room, list, admitByLeft(nil, room, list))
				checkAdmit(t, list, room, nil, "")
			} else {
				checkNoAdmit(t, list, room, other)
				checkNoAdmit(t, other, room, list)
				checkNoAdmit(t, list, room, list)
				checkNoAdmit(t, nil, room, list)
				checkNoAdmit(t, list, room, nil)
			}
		}
	}
}

// P16, P21: room in 0 .. 100000, met by the greatest sizes just so.
func TestAdmitRoom(t *testing.T) {
	full := slices.Repeat([]int{1000}, 60)
	for _, c := range []struct{ room, count int }{{100000, 40}, {99999, 39}, {99000, 39}, {60999, 0}, {61000, 1}, {60000, 0}, {0, 0}} {
		want := strings.Repeat("y", c.count) + strings.Repeat("n", 60-c.count)
		checkAdmit(t, full, c.room, full, want)
	}
	for _, room := range []int{0, 1, 2, 60000, 65535, 65536, 99999, 100000} {
		for _, asks := range [][]int{nil, {1}, {1000, 1}, full} {
			checkAdmit(t, nil, room, asks, admitByLeft(nil, room, asks))
		}
	}
	for _, wrong := range outside(0, 100000) {
		checkNoAdmit(t, nil, wrong, nil)
		checkNoAdmit(t, nil, wrong, []int{1})
		checkNoAdmit(t, []int{1}, wrong, nil)
		checkNoAdmit(t, full, wrong, full)
	}
}

// P16, P21: each size in 1 .. 1000, in both lists and at each place, also where
// it would not be let in.
func TestAdmitNumbers(t *testing.T) {
	for _, n := range []int{1, 2, 3, 59, 60} {
		for place := range n {
			for _, room := range []int{0, 300, 1500, 100000} {
				for _, right := range []int{1, 2, 999, 1000} {
					list := slices.Repeat([]int{300}, n)
					list[place] = right
					checkAdmit(t, list, room, []int{7}, admitByLeft(list, room, []int{7}))
					checkAdmit(t, []int{7}, room, list, admitByLeft([]int{7}, room, list))
				}
				for _, wrong := range outside(1, 1000) {
					list := slices.Repeat([]int{300}, n)
					list[place] = wrong
					checkNoAdmit(t, list, room, []int{7})
					checkNoAdmit(t, list, room, nil)
					checkNoAdmit(t, []int{7}, room, list)
					checkNoAdmit(t, nil, room, list)
				}
			}
		}
	}
}
