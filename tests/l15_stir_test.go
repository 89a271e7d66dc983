package tests

import (
	"slices"
	"testing"

	"loop.example/g00052/impl"
)

// keyByParts tells two numbers exclusive-or each other without that operation:
// what both have is taken from their sum.
func keyByParts(number, frame int) int {
	rest := frame - frame/65536*65536
	key := number + rest - 2*(number&rest)
	if key == 0 {
		return 1
	}
	return key
}

func secondKey(book []int, frame int) int {
	at := frame
	for at >= len(book) {
		at -= len(book) * max(1, at/len(book))
	}
	return keyByParts(book[at], frame)
}

func checkKey(t *testing.T, book []int, frame, want int) {
	t.Helper()
	if got, ok := impl.Key15(book, frame); !ok || got != want {
		t.Errorf("Key15(%d, %d): %d and %t, not %d", book, frame, got, ok, want)
	}
}

func checkNoKey(t *testing.T, book []int, frame int) {
	t.Helper()
	if got, ok := impl.Key15(book, frame); ok || got != 0 {
		t.Errorf("Key15(%d, %d): %d and %t", book, frame, got, ok)
	}
}

// wrongFrames are past the ends, and far off.
func wrongFrames() []int {
	list := []int{-1, -2, -65536, 1000001, 1000002, 2000000}
	for _, x := range farNumbers {
		if x < 0 || x > 1000000 {
			list = append(list, x)
		}
	}
	return list
}

// wrongKeys are no key and no number of a book.
func wrongKeys() []int {
	list := []int{0, -1, -2, -65535, 65536, 65537, 131071}
	for _, x := range farNumbers {
		if x < 1 || x > 65535 {
			list = append(list, x)
		}
	}
	return list
}

// P15: known keys.
func TestKnownKeys(t *testing.T) {
	for _, c := range []struct {
		book        []int
		frame, want int
	}{
		{[]int{5, 9, 7}, 0, 5},
		{[]int{5, 9, 7}, 1, 8},
		{[]int{5, 9, 7}, 2, 5},
		{[]int{5, 9, 7}, 3, 6},
		{[]int{5, 9, 7}, 7, 14},
		{[]int{5, 9, 8}, 65536 + 9, 1},
		{[]int{1}, 0, 1},
		{[]int{65535}, 0, 65535},
		// What would be 0 is 1.
		{[]int{6}, 6, 1},
		{[]int{1}, 1, 1},
		{[]int{3, 1}, 1, 1},
		{[]int{65535}, 65535, 1},
		{[]int{1}, 65537, 1},
		{[]int{5}, 5 + 3*65536, 1},
		{[]int{6}, 7, 1},
		{[]int{65535}, 65534, 1},
		// A frame is cut to 16 bits, and counted whole among the numbers.
		{[]int{1}, 65535, 65534},
		{[]int{1}, 65536, 1},
		{[]int{77}, 65536, 77},
		{[]int{77}, 131072, 77},
		{[]int{10, 20, 30}, 65536, 20},
		{[]int{10, 20, 30}, 131072, 30},
		{[]int{10, 20, 30}, 65537, 31},
		{[]int{40000}, 1000000, 56832},
		{[]int{40000, 1, 2}, 1000000, 16961},
	} {
		checkKey(t, c.book, c.frame, c.want)
		if told := secondKey(c.book, c.frame); told != c.want {
			t.Errorf("the second telling of %v is wrong: %d", c, told)
		}
	}
}

// P15, P21: all frames, each with a key that stirs.
func TestKeysOfAllFrames(t *testing.T) {
	book := []int{1, 65535, 32768, 4660, 9, 16960, 777}
	for frame := range 1000001 {
		want := secondKey(book, frame)
		if got, ok := impl.Key15(book, frame); !ok || got != want || got < 1 || got > 65535 {
			t.Fatalf("frame %d: %d and %t, not %d", frame, got, ok, want)
		}
	}
	for _, frame := range wrongFrames() {
		checkNoKey(t, book, frame)
		checkNoKey(t, []int{1}, frame)
		checkNoKey(t, nil, frame)
	}
}

// P15, P21: books of 1 to 64 numbers.
func TestBookSizes(t *testing.T) {
	var book []int
	for n := range 100 {
		for _, frame := range []int{0, 1, 2, 62, 63, 64, 65, 65535, 65536, 65599, 65600, 999999, 1000000} {
			if n >= 1 && n <= 64 {
				checkKey(t, book, frame, secondKey(book, frame))
			} else {
				checkNoKey(t, book, frame)
			}
		}
		book = append(book, 1000+17*n)
	}
	checkNoKey(t, slices.Repeat([]int{5}, 1000), 5)
}

// P15, P21: each number of a book in 1 .. 65535, also where it is not asked for.
func TestBookNumbers(t *testing.T) {
	for _, n := range []int{1, 2, 3, 63, 64} {
		for place := range n {
			for _, frame := range []int{0, 1, place, 64, 65536, 1000000} {
				for _, right := range []int{1, 2, 65534, 65535} {
					book := slices.Repeat([]int{300}, n)
					book[place] = right
					checkKey(t, book, frame, secondKey(book, frame))
				}
				for _, wrong := range wrongKeys() {
					book := slices.Repeat([]int{300}, n)
					book[place] = wrong
					checkNoKey(t, book, frame)
				}
			}
		}
	}
}

// stirLags are the lags of the register that stirs.
var stirLags = []int{16, 14, 13, 11}

func secondStir(bits []int, key int) []int {
	var stirred []int
	for i, told := range registerBits(key, stirLags, len(bits)) {
		if told == 1 {
			stirred = append(stirred, 1-bits[i])
		} else {
			stirred = append(stirred, bits[i])
		}
	}
	return stirred
}

func checkStir(t *testing.T, bits []int, key int, want []int) {
	t.Helper()
	if got, ok := impl.Stir15(bits, key); !ok || !slices.Equal(got, want) {
		t.Errorf("Stir15(%d, %d): %d and %t, not %d", bits, key, got, ok, want)
	}
}

func checkNoStir(t *testing.T, bits []int, key int) {
	t.Helper()
	if got, ok := impl.Stir15(bits, key); ok || len(got) != 0 {
		t.Errorf("Stir15(%d, %d): %d and %t", bits, key, got, ok)
	}
}

// P15: known bits that are stirred, worked out by hand.
func TestKnownStirs(t *testing.T) {
	for _, c := range []struct {
		bits string
		key  int
		want string
	}{
		{"", 1, ""},
		{"", 65535, ""},
		{"0", 1, "1"},
		{"1", 1, "0"},
		{"0", 2, "0"},
		{"1", 2, "1"},
		{"0000", 5, "1010"},
		{"1111", 5, "0101"},
		{"1010", 5, "0000"},
		{"00000000000000000000", 1, "10000000000101101000"},
		{"00000000000000000000", 65535, "11111111111001000000"},
		{"00000000000000000", 32768, "00000000000000010"},
	} {
		checkStir(t, bitsOf(c.bits), c.key, bitsOf(c.want))
		if told := textOf(secondStir(bitsOf(c.bits), c.key)); told != c.want {
			t.Errorf("the second telling of %v is wrong: %s", c, told)
		}
	}
}

// P15: drawn bits, by drawn keys; what is stirred twice is what it was.
func TestDrawnStirs(t *testing.T) {
	r := drawn(1506)
	for n := range 321 {
		for _, key := range []int{1, 2, 32768, 65534, 65535, 1 + r.below(65535), 1 + r.below(65535)} {
			bits := drawBitList(&r, n)
			checkStir(t, bits, key, secondStir(bits, key))
			stirred, _ := impl.Stir15(bits, key)
			checkStir(t, stirred, key, bits)
		}
	}
}

// P15: 16 bits or more come back by no other key: no two keys tell the same.
func TestNoOtherKey(t *testing.T) {
	keyOf := map[string]int{}
	for key := 1; key <= 65535; key++ {
		stirred, ok := impl.Stir15(make([]int, 16), key)
		text := textOf(stirred)
		if other, twice := keyOf[text]; twice || !ok {
			t.Fatalf("keys %d and %d both tell %s", other, key, text)
		}
		keyOf[text] = key
	}
	r := drawn(1507)
	for n := 16; n <= 320; n++ {
		bits, key := drawBitList(&r, n), 1+r.below(65535)
		stirred, _ := impl.Stir15(bits, key)
		for _, other := range []int{1, 65535, key ^ 1, key ^ 32768, 1 + r.below(65535)} {
			if back, ok := impl.Stir15(stirred, other); other != key && other != 0 && (!ok || slices.Equal(back, bits)) {
				t.Errorf("%d bits stirred by %d come back by %d", n, key, other)
			}
		}
	}
}

// P15, P21: at most 2 MaxBurst bits, keys in 1 .. 65535; a list without elements
// is one of bits.
func TestStirLimits(t *testing.T) {
	for n := range 700 {
		bits := repeated("1101", n)
		for _, key := range []int{1, 2, 65534, 65535} {
			if n <= 320 {
				checkStir(t, bits, key, secondStir(bits, key))
			} else {
				checkNoStir(t, bits, key)
			}
		}
		for _, key := range wrongKeys() {
			checkNoStir(t, bits, key)
		}
	}
}

// P15: nothing is stirred into nothing by every key, and by no other number.
func TestStirOfNothing(t *testing.T) {
	for _, bits := range [][]int{nil, {}, []int{2, 1}[:0]} {
		for key := 1; key <= 65535; key++ {
			checkStir(t, bits, key, nil)
		}
		for _, key := range wrongKeys() {
			checkNoStir(t, bits, key)
		}
	}
}

// noBits are numbers that are neither 0 nor 1, near to these, alike in some of
// their bits, or far off.
func noBits() []int {
	return append([]int{2, 3, 4, -1, -2, 48, 49, 255, 256, 257}, farNumbers...)
}

// P15: a number that is no bit, whichever it is, in each place and beside a key
// that is none too.
func TestStirOfNumbersThatAreNoBits(t *testing.T) {
	for _, x := range noBits() {
		for _, n := range []int{1, 2, 3, 16, 319, 320, 321} {
			for _, place := range []int{0, n / 2, n - 1} {
				for _, rest := range []string{"0", "1", "10"} {
					list := repeated(rest, n)
					list[place] = x
					for _, key := range []int{0, 1, 2, 4321, 65535, 65536} {
						checkNoStir(t, list, key)
					}
				}
			}
		}
	}
	for place := range 320 {
		list := make([]int, 320)
		list[place] = 2
		checkNoStir(t, list, 1)
		list[place] = -1
		checkNoStir(t, list, 65535)
	}
}
