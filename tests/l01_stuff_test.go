package tests

import (
	"math"
	"slices"
	"strings"
	"testing"

	"loop.example/g00052/impl"
)

func bitsOf(text string) []int {
	var bits []int
	for _, c := range text {
		bits = append(bits, int(c-'0'))
	}
	return bits
}

func textOf(bits []int) string {
	var b strings.Builder
	for _, bit := range bits {
		b.WriteByte(byte('0' + bit))
	}
	return b.String()
}

// bitTexts are all texts of 0 and 1 of at most that many bytes.
func bitTexts(most int) []string {
	texts := []string{""}
	for at := 0; len(texts[at]) < most; at++ {
		texts = append(texts, texts[at]+"0", texts[at]+"1")
	}
	return texts
}

func TestStuffOfKnownBits(t *testing.T) {
	for _, c := range [][2]string{
		{"", ""},
		{"0", "0"},
		{"1", "1"},
		{"1111", "1111"},
		{"11111", "111110"},
		{"111110", "1111100"},
		{"111111", "1111101"},
		{"1111111111", "111110111110"},
		{"11111111111", "1111101111101"},
		{"0111101111101", "01111011111001"},
	} {
		if got, ok := impl.Stuff(bitsOf(c[0])); !ok || textOf(got) != c[1] {
			t.Error("stuff", c[0], got, ok)
		}
		if got, ok := impl.Unstuff(bitsOf(c[1])); !ok || textOf(got) != c[0] {
			t.Error("unstuff", c[1], got, ok)
		}
	}
}

func TestStuffOfAllShortBits(t *testing.T) {
	for _, text := range bitTexts(13) {
		got, ok := impl.Stuff(bitsOf(text))
		if !ok || textOf(got) != strings.ReplaceAll(text, "11111", "111110") {
			t.Fatal(text, got, ok)
		}
		if strings.Contains(textOf(got), "111111") {
			t.Fatal("six in a row", text, got)
		}
		if back, ok := impl.Unstuff(got); !ok || textOf(back) != text {
			t.Fatal("back", text, back, ok)
		}
	}
}

func TestUnstuffOfAllShortBits(t *testing.T) {
	from := map[string]string{}
	for _, text := range bitTexts(13) {
		from[strings.ReplaceAll(text, "11111", "111110")] = text
	}
	for _, text := range bitTexts(13) {
		want, stuffed := from[text]
		got, ok := impl.Unstuff(bitsOf(text))
		if ok != stuffed || textOf(got) != want {
			t.Fatal(text, got, ok)
		}
	}
}

func TestUnstuffOfBadRuns(t *testing.T) {
	for _, text := range []string{"11111", "111111", "1111110", "011111", "0111111", "11111011111", "111110111111", "111110111111000", "0000111111000"} {
		if got, ok := impl.Unstuff(bitsOf(text)); ok || len(got) != 0 {
			t.Error(text, got, ok)
		}
	}
}

func TestStuffOfNumbersThatAreNoBits(t *testing.T) {
	for _, x := range []int{2, 3, -1, -2, 10, 48, 49, 255, 256, 257, 1<<32 + 1, math.MaxInt, math.MinInt, math.MinInt + 1} {
		for _, text := range []string{"x", "x01", "0x1", "01x", "1x", "1111x", "11111x", "11111x0", "111110x", "111110x1", "11111x1"} {
			var bits []int
			for _, c := range text {
				if c == 'x' {
					bits = append(bits, x)
				} else {
					bits = append(bits, int(c-'0'))
				}
			}
			if got, ok := impl.Stuff(bits); ok || len(got) != 0 {
				t.Error("stuff", bits, got, ok)
			}
			if got, ok := impl.Unstuff(bits); ok || len(got) != 0 {
				t.Error("unstuff", bits, got, ok)
			}
		}
	}
}

// repeated are n bits, the text's over and over.
func repeated(text string, n int) []int {
	return slices.Repeat(bitsOf(text), n/len(text)+1)[:n]
}

func TestStuffLimit(t *testing.T) {
	for _, text := range []string{"0", "1", "10", "111110", "1111110", "11110", "01111101"} {
		for _, n := range []int{impl.MaxBits - 1, impl.MaxBits} {
			bits := repeated(text, n)
			got, ok := impl.Stuff(bits)
			if !ok || textOf(got) != strings.ReplaceAll(textOf(bits), "11111", "111110") {
				t.Error(text, n, len(got), ok)
			}
			if back, ok := impl.Unstuff(got); !ok || !slices.Equal(back, bits) {
				t.Error("back", text, n, len(back), ok)
			}
		}
		for _, n := range []int{impl.MaxBits + 1, impl.MaxBits + 2, 2 * impl.MaxBits, 9999} {
			if got, ok := impl.Stuff(repeated(text, n)); ok || len(got) != 0 {
				t.Error("too many", text, n, len(got), ok)
			}
		}
	}
}

func TestUnstuffLimit(t *testing.T) {
	for _, text := range []string{"0", "01", "111100", "11111000"} {
		for _, n := range []int{impl.MaxBits, impl.MaxBits + 1, 2*impl.MaxBits - 1, 2 * impl.MaxBits} {
			bits := repeated(text, n)
			if got, ok := impl.Unstuff(bits); !ok || textOf(got) != strings.ReplaceAll(textOf(bits), "111110", "11111") {
				t.Error(text, n, len(got), ok)
			}
		}
		for _, n := range []int{2*impl.MaxBits + 1, 2*impl.MaxBits + 2, 9999} {
			if got, ok := impl.Unstuff(repeated(text, n)); ok || len(got) != 0 {
				t.Error("too many", text, n, len(got), ok)
			}
		}
	}
}

func TestLastOfManyBits(t *testing.T) {
	bits := make([]int, impl.MaxBits)
	bits[impl.MaxBits-1] = 2
	if got, ok := impl.Stuff(bits); ok || len(got) != 0 {
		t.Error("stuff", len(got), ok)
	}
	bits = make([]int, 2*impl.MaxBits)
	bits[2*impl.MaxBits-1] = 2
	if got, ok := impl.Unstuff(bits); ok || len(got) != 0 {
		t.Error("unstuff", len(got), ok)
	}
	copy(bits[2*impl.MaxBits-5:], []int{1, 1, 1, 1, 1})
	if got, ok := impl.Unstuff(bits); ok || len(got) != 0 {
		t.Error("followed by nothing", len(got), ok)
	}
}

func TestStuffKeepsToItsMemory(t *testing.T) {
	for name, ask := range map[string]func([]int) ([]int, bool){"stuff": impl.Stuff, "unstuff": impl.Unstuff} {
		for _, bits := range [][]int{nil, {0}, {1, 0, 1}, {1, 1, 1, 1, 1, 0, 1}, {1, 1, 1, 1, 1}, {1, 1, 1, 1, 1, 1}, {0, 2}, repeated("10", 500), repeated("0", 5000)} {
			g := guard(1, bits)
			first, ok := ask(g.list)
			second, _ := ask(g.list)
			want := slices.Clone(second)
			scribble(first, 99)
			third, again := ask(g.list)
			if !g.untouched() || !slices.Equal(second, want) || !slices.Equal(third, want) || ok != again {
				t.Error(name, len(bits), second, third, ok, again)
			}
		}
	}
}

func TestStuffStopsAtTheLength(t *testing.T) {
	zero := guard(0, []int{1, 1, 1, 1, 1})
	if got, ok := impl.Unstuff(zero.list); ok || len(got) != 0 {
		t.Error("the 0 behind the length counts", got, ok)
	}
	wrong := guard(2, []int{1, 0})
	if got, ok := impl.Stuff(wrong.list); !ok || !slices.Equal(got, []int{1, 0}) {
		t.Error("stuff", got, ok)
	}
	if got, ok := impl.Unstuff(wrong.list); !ok || !slices.Equal(got, []int{1, 0}) {
		t.Error("unstuff", got, ok)
	}
}
