package tests

import (
	"slices"
	"strings"
	"testing"

	"loop.example/g00052/impl"
)

// wovenText writes the rows below one another and reads the columns.
func wovenText(text string, rows int) string {
	length := len(text) / rows
	var lines []string
	for row := range rows {
		lines = append(lines, text[row*length:(row+1)*length])
	}
	var b strings.Builder
	for column := range length {
		for _, line := range lines {
			b.WriteByte(line[column])
		}
	}
	return b.String()
}

func checkWeave(t *testing.T, bits []int, rows int, want []int) {
	t.Helper()
	if got, ok := impl.Weave15(bits, rows); !ok || !slices.Equal(got, want) {
		t.Errorf("Weave15(%d, %d): %d and %t, not %d", bits, rows, got, ok, want)
	}
	if back, ok := impl.Unweave15(want, rows); !ok || !slices.Equal(back, bits) {
		t.Errorf("Unweave15(%d, %d): %d and %t, not %d", want, rows, back, ok, bits)
	}
}

func checkNoWeave(t *testing.T, bits []int, rows int) {
	t.Helper()
	if got, ok := impl.Weave15(bits, rows); ok || len(got) != 0 {
		t.Errorf("Weave15(%d, %d): %d and %t", bits, rows, got, ok)
	}
	if got, ok := impl.Unweave15(bits, rows); ok || len(got) != 0 {
		t.Errorf("Unweave15(%d, %d): %d and %t", bits, rows, got, ok)
	}
}

// P15: known bits in rows.
func TestKnownWeaves(t *testing.T) {
	for _, c := range []struct {
		bits string
		rows int
		want string
	}{
		{"", 1, ""},
		{"", 16, ""},
		{"1", 1, "1"},
		{"10", 1, "10"},
		{"10", 2, "10"},
		{"1100", 2, "1010"},
		{"111000", 2, "101010"},
		{"101010", 2, "100110"},
		{"110100", 3, "100110"},
		{"111000", 3, "110100"},
		{"111000", 6, "111000"},
		{"111100000000", 3, "100100100100"},
		{"111100000000", 4, "110010001000"},
	} {
		checkWeave(t, bitsOf(c.bits), c.rows, bitsOf(c.want))
		if told := wovenText(c.bits, c.rows); told != c.want {
			t.Errorf("the second telling of %v is wrong: %s", c, told)
		}
	}
}

// P15: each bit by itself, in every number of rows.
func TestWeaveMovesEachBit(t *testing.T) {
	for n := 1; n <= 320; n++ {
		for rows := 1; rows <= 16; rows++ {
			if n%rows != 0 {
				continue
			}
			for place := range n {
				bits, want := make([]int, n), make([]int, n)
				bits[place] = 1
				row, column := place/(n/rows), place%(n/rows)
				want[column*rows+row] = 1
				checkWeave(t, bits, rows, want)
			}
		}
	}
}

// P15, P21: 1 to 16 rows that divide at most 2 MaxBurst bits; one after the
// other, both ways.
func TestWeaveLimits(t *testing.T) {
	r := drawn(1509)
	for n := range 700 {
		bits := drawBitList(&r, n)
		for rows := 1; rows <= 16; rows++ {
			if n > 320 || n%rows != 0 {
				checkNoWeave(t, bits, rows)
				continue
			}
			checkWeave(t, bits, rows, bitsOf(wovenText(textOf(bits), rows)))
			unwoven, ok := impl.Unweave15(bits, rows)
			if back, also := impl.Weave15(unwoven, rows); !ok || !also || !slices.Equal(back, bits) {
				t.Errorf("%d bits in %d rows: unwoven and woven %d, not %d", n, rows, back, bits)
			}
		}
		for _, rows := range append([]int{0, -1, -2, -16, 17, 18, 32, n}, farNumbers...) {
			if rows < 1 || rows > 16 {
				checkNoWeave(t, bits, rows)
			}
		}
	}
}

// P15: a number that is no bit, whichever it is, in each place and in every
// number of rows, those that may not be among them.
func TestWeaveOfNumbersThatAreNoBits(t *testing.T) {
	for _, x := range noBits() {
		for _, n := range []int{1, 2, 4, 16, 240, 319, 320, 321} {
			for _, place := range []int{0, n / 2, n - 1} {
				for _, rest := range []string{"0", "1", "10"} {
					list := repeated(rest, n)
					list[place] = x
					for rows := range 18 {
						checkNoWeave(t, list, rows)
					}
				}
			}
		}
	}
	for place := range 320 {
		list := make([]int, 320)
		list[place] = 2
		checkNoWeave(t, list, 16)
		list[place] = -1
		checkNoWeave(t, list, 1)
	}
	checkNoWeave(t, []int{1, 2, 3, 4, 5, 6}, 2)
	checkNoWeave(t, []int{0, 1, -1, 1}, 2)
}
