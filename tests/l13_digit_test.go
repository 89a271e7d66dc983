package tests

import (
	"math"
	"slices"
	"testing"

	"loop.example/g00052/impl"
)

// secondDigit tries all digits: a row and a column that are loud by themselves,
// against each other one, held against one another, and against all levels.
func secondDigit(list []int) int {
	if len(list) != 128 || slices.ContainsFunc(list, func(level int) bool { return sizeOf(level) > 32767 }) {
		return -1
	}
	squares := 0
	for _, level := range list {
		squares += level * level
	}
	for digit := range 16 {
		p, q := secondPower(list, stepsOfRows[digit/4]), secondPower(list, stepsOfColumns[digit%4])
		if min(p, q) >= 1000000 && max(p, q) <= 8*min(p, q) && p+q >= 32*squares &&
			isAlone(list, stepsOfRows, digit/4) && isAlone(list, stepsOfColumns, digit%4) {
			return digit
		}
	}
	return -1
}

func isAlone(list []int, steps []int, own int) bool {
	for other, step := range steps {
		if other != own && secondPower(list, steps[own]) < 8*secondPower(list, step) {
			return false
		}
	}
	return true
}

func checkDigit(t *testing.T, list []int, want int) {
	t.Helper()
	if got := impl.Digit(list); got != want {
		t.Errorf("Digit(%v): %d, not %d", list, got, want)
	}
}

// checkAsSecond is for lists of which only the second telling knows the digit.
func checkAsSecond(t *testing.T, list []int) int {
	t.Helper()
	want := secondDigit(list)
	checkDigit(t, list, want)
	return want
}

// A tone is one step of a size, from a place of the circle on.
type tone struct {
	step int
	size float64
	from int
}

// mixOf is the sum of tones over a window, each level rounded.
func mixOf(tones ...tone) []int {
	list := make([]int, 128)
	for i := range list {
		sum := 0.0
		for _, one := range tones {
			sum += one.size * float64(secondWave(one.from+i*one.step)) / impl.Whole
		}
		list[i] = int(math.Round(sum))
	}
	return list
}

// P13: each digit, at each phase, from a size of 16 on: 64 times it is at least
// 1000, so its powers are at least 1000000. Of 15 it is not.
func TestDigitsOfEveryPhase(t *testing.T) {
	for digit := range 16 {
		for phase := range 256 {
			for _, size := range []int{0, 1, 7, 14, 15} {
				checkDigit(t, secondTone(digit, size, phase, 128), -1)
			}
			for _, size := range []int{16, 17, 199, 200, 201, 3000, 16000} {
				checkDigit(t, secondTone(digit, size, phase, 128), digit)
			}
		}
	}
}

// P13: each size from the least that is enough on.
func TestDigitsOfEverySize(t *testing.T) {
	for size := range 16001 {
		want := size * 5 % 16
		list := secondTone(want, size, size*11%256, 128)
		if size < 16 {
			want = -1
		}
		checkDigit(t, list, want)
	}
}

// noises are of at most a size: drawn, all as great as can be, along another
// tone, along one of the digit's own, and against it.
func noises(r *drawn, digit int, phase int, size int) [][]int {
	list := [][]int{drawLevels(r, 128, size)}
	great := drawLevels(r, 128, 1)
	for i := range great {
		great[i] = (2*r.below(2) - 1) * size
	}
	list = append(list, great)
	row, column := digit/4, digit%4
	for _, step := range []int{stepsOfRows[(row+1)%4], stepsOfColumns[(column+3)%4], stepsOfRows[row], stepsOfColumns[column]} {
		along, against := make([]int, 128), make([]int, 128)
		for i := range along {
			along[i] = size
			if secondWave((phase+i)*step) < 0 {
				along[i] = -size
			}
			against[i] = -along[i]
		}
		list = append(list, along, against)
	}
	return list
}

// addedTo keeps all sums levels, so that the greatest tones may have noise too.
func addedTo(list []int, noise []int) []int {
	sum := make([]int, len(list))
	for i, level := range list {
		sum[i] = min(max(level+noise[i], -32767), 32767)
	}
	return sum
}

// P13: each digit of a size from 200 on, begun at every phase, with noise of at
// most a 20th of the size.
func TestDigitsInNoise(t *testing.T) {
	r := drawn(1303)
	for digit := range 16 {
		for phase := range 256 {
			size := []int{200, 201, 219, 220, 1000, 7777, 16000}[r.below(7)]
			for _, noise := range noises(&r, digit, phase, size/20) {
				list := addedTo(secondTone(digit, size, phase, 128), noise)
				checkDigit(t, list, digit)
			}
			for _, noise := range noises(&r, digit, phase, 10) {
				checkDigit(t, addedTo(secondTone(digit, 200, phase, 128), noise), digit)
			}
		}
	}
}

// P13: with more noise some are found and some are not.
func TestDigitsInMoreNoise(t *testing.T) {
	r := drawn(1304)
	found := map[bool]int{}
	for range 6000 {
		digit, size := r.below(16), 20+r.below(2000)
		list := secondTone(digit, size, r.below(256), 128)
		told := checkAsSecond(t, addedTo(list, drawLevels(&r, 128, size*(1+r.below(5)))))
		found[told == digit]++
	}
	if found[true] < 500 || found[false] < 500 {
		t.Errorf("%v: too few of one kind", found)
	}
}

// P13: silence, one level at each place, and the same level all along hold
// none.
func TestSilenceHoldsNone(t *testing.T) {
	checkDigit(t, make([]int, 128), -1)
	for _, level := range []int{-32767, -1, 1, 999, 1000, 32767} {
		checkDigit(t, slices.Repeat([]int{level}, 128), -1)
		checkDigit(t, slices.Repeat([]int{level, -level}, 64), -1)
		// All powers of a single level at the front are alike.
		for place := range 128 {
			list := make([]int, 128)
			list[place] = level
			checkDigit(t, list, -1)
		}
	}
}

// P13: one tone alone, of every step, is none.
func TestOneToneAloneIsNone(t *testing.T) {
	for step := range 129 {
		for from := 0; from < 256; from += 16 {
			for _, size := range []float64{16, 40, 200, 3000, 32767} {
				checkDigit(t, mixOf(tone{step, size, from}), -1)
			}
		}
	}
	for _, step := range slices.Concat(stepsOfRows, stepsOfColumns) {
		for from := range 256 {
			for _, size := range []float64{16, 200, 32767} {
				checkDigit(t, mixOf(tone{step, size, from}), -1)
			}
		}
	}
}

// P13: two rows without a column, two columns without a row, and three tones
// hold none; nor do faint levels.
func TestOtherTonesAreNone(t *testing.T) {
	r := drawn(1305)
	for a := range 4 {
		for b := range a {
			for from := range 256 {
				rows := []tone{{stepsOfRows[a], 5000, from}, {stepsOfRows[b], 5000, 3 * from}}
				columns := []tone{{stepsOfColumns[a], 5000, from}, {stepsOfColumns[b], 5000, 3 * from}}
				checkDigit(t, mixOf(rows...), -1)
				checkDigit(t, mixOf(columns...), -1)
				checkDigit(t, mixOf(append(rows, columns[0])...), -1)
				checkDigit(t, mixOf(append(columns, rows[0])...), -1)
				checkDigit(t, mixOf(append(rows, columns...)...), -1)
			}
		}
	}
	for range 1000 {
		checkDigit(t, drawLevels(&r, 128, 7), -1)
	}
}

// P13: voices that are no digits: drawn levels of all sizes, and drawn tones of
// drawn sizes.
func TestDigitsOfDrawnTones(t *testing.T) {
	r := drawn(1306)
	found := map[bool]int{}
	for range 3000 {
		checkAsSecond(t, drawLevels(&r, 128, 1+r.below(32767)))
		tones := []tone{
			{stepsOfRows[r.below(4)], float64(10 + r.below(40)), r.below(256)},
			{stepsOfColumns[r.below(4)], float64(10 + r.below(40)), r.below(256)},
			{r.below(129), float64(r.below(60)), r.below(256)},
		}
		told := checkAsSecond(t, mixOf(tones[:2+r.below(2)]...))
		found[told >= 0]++
	}
	if found[true] < 500 || found[false] < 500 {
		t.Errorf("%v: too few of one kind", found)
	}
}

// P13, P21: a list of Window13 levels, and of any other size.
func TestDigitSizes(t *testing.T) {
	for digit := range 16 {
		long := secondTone(digit, 3000, digit, 1024)
		for n := range 300 {
			if n != 128 {
				checkDigit(t, long[:n], -1)
			}
		}
		checkDigit(t, long[:128], digit)
		checkDigit(t, long[:1024], -1)
		checkDigit(t, append(make([]int, 1), long[:128]...), -1)
		checkDigit(t, append(slices.Clone(long[:127]), 0), digit)
	}
	checkDigit(t, nil, -1)
	checkDigit(t, []int{}, -1)
}

// P13: a level that is none, at every place; the greatest that is one.
func TestDigitOfNoLevels(t *testing.T) {
	for place := range 128 {
		for _, level := range noLevels() {
			list := secondTone(6, 3000, 0, 128)
			list[place] = level
			checkDigit(t, list, -1)
		}
		for _, level := range []int{-32767, 32767} {
			list := secondTone(6, 16000, 0, 128)
			list[place] = level
			checkDigit(t, list, 6)
		}
	}
}

// A tuning is a list whose levels are changed a little, one by one, with what
// is known of it: the sums of all steps and of the squares.
type tuning struct {
	base    []int
	list    []int
	sums    [8][2]int
	squares int
}

func tuningOf(list []int) *tuning {
	d := &tuning{base: list, list: make([]int, len(list))}
	for i, level := range list {
		d.set(i, level)
	}
	return d
}

func (d *tuning) set(place int, level int) {
	change := level - d.list[place]
	d.squares += change * (level + d.list[place])
	d.list[place] = level
	for i := range 4 {
		d.add(i, place*stepsOfRows[i], change)
		d.add(4+i, place*stepsOfColumns[i], change)
	}
}

func (d *tuning) add(i int, at int, change int) {
	d.sums[i][0] += change * secondWave(at)
	d.sums[i][1] += change * secondWave(at-64)
}

func (d *tuning) row(i int) int    { return d.power(i) }
func (d *tuning) column(i int) int { return d.power(4 + i) }
func (d *tuning) power(i int) int {
	x, y := wholesBelow(d.sums[i][0]), wholesBelow(d.sums[i][1])
	return x*x + y*y
}

// tune changes a list, no level by more than 3, until it is as wanted. What is
// wanted is a number from 0 on that is least where it is met: it is 0 there.
func tune(t *testing.T, r *drawn, list []int, off func(d *tuning) int) []int {
	t.Helper()
	d := tuningOf(list)
	far := off(d)
	for range 3000000 {
		if far == 0 {
			return d.list
		}
		place := r.below(128)
		was := d.list[place]
		d.set(place, d.base[place]+r.below(7)-3)
		if now := off(d); now <= far || r.below(50) == 0 {
			far = now
		} else {
			d.set(place, was)
		}
	}
	t.Fatal("no such list was found")
	return nil
}

// A digitEdge is a mark at which a digit is just one, and behind which it is
// none: over tells how far a list is past it (0 where it is just met), and
// least how little that can be at least; met and missed are lists near both.
type digitEdge struct {
	name   string
	least  int
	met    []int
	missed []int
	over   func(d *tuning) int
}

// aimed has the power x x + y y, nearly, and a column or row of size 25 beside
// it.
func aimed(step int, x float64, y float64, other int) []int {
	return mixOf(tone{step, x / 64, 0}, tone{step, y / 64, -64}, tone{other, 25, 9})
}

// loudEdges are those of a power of 1000000, which is that of 600 and 800. The
// next lesser sum of two squares is 999997, of 454 and 891.
func loudEdges(row int, column int) []digitEdge {
	r, c := stepsOfRows[row], stepsOfColumns[column]
	return []digitEdge{
		{"p is 1000000", 3, aimed(r, 600, 800, c), aimed(r, 454, 891, c), func(d *tuning) int { return 1000000 - d.row(row) }},
		{"q is 1000000", 3, aimed(c, 600, -800, r), aimed(c, -454, 891, r), func(d *tuning) int { return 1000000 - d.column(column) }},
	}
}

// otherEdges are those of another row and column, at an eighth of the greatest.
// No power is 1 or 2 less than 8 times something.
func otherEdges(row int, column int, other int, from int) []digitEdge {
	a, b := (row+other)%4, (column+other)%4
	both := []tone{{stepsOfRows[row], 40, from}, {stepsOfColumns[column], 40, 5 * from}}
	rows := mixOf(append(both, tone{stepsOfRows[a], 40 / math.Sqrt(8), 9})...)
	columns := mixOf(append(both, tone{stepsOfColumns[b], 40 / math.Sqrt(8), 9})...)
	return []digitEdge{
		{"p is 8 times another row's", 3, rows, rows, func(d *tuning) int { return 8*d.row(a) - d.row(row) }},
		{"q is 8 times another column's", 3, columns, columns, func(d *tuning) int { return 8*d.column(b) - d.column(column) }},
	}
}

// wholeEdges are those of both powers held against one another, and against all
// levels.
func wholeEdges(row int, column int, from int) []digitEdge {
	r, c := stepsOfRows[row], stepsOfColumns[column]
	rowLoud := mixOf(tone{r, 60, from}, tone{c, 60 / math.Sqrt(8), 5 * from})
	columnLoud := mixOf(tone{r, 60 / math.Sqrt(8), from}, tone{c, 60, 5 * from})
	third := mixOf(tone{r, 30, from}, tone{c, 30, 5 * from}, tone{80, 30 * math.Sqrt2, 2 * from})
	return []digitEdge{
		{"p is 8 q", 1, rowLoud, rowLoud, func(d *tuning) int { return d.row(row) - 8*d.column(column) }},
		{"q is 8 p", 1, columnLoud, columnLoud, func(d *tuning) int { return d.column(column) - 8*d.row(row) }},
		{"the energy is just met", 1, third, third, func(d *tuning) int { return 32*d.squares - d.row(row) - d.column(column) }},
	}
}

// P13, P21: every mark, of every digit: just met it is one, missed by the least
// that can be it is none.
func TestDigitEdges(t *testing.T) {
	r := drawn(1307)
	for digit := range 16 {
		row, column := digit/4, digit%4
		edges := append(loudEdges(row, column), wholeEdges(row, column, r.below(256))...)
		for other := 1; other <= 3; other++ {
			edges = append(edges, otherEdges(row, column, other, r.below(256))...)
		}
		for _, edge := range edges {
			met := tune(t, &r, edge.met, func(d *tuning) int { return sizeOf(edge.over(d)) })
			missed := tune(t, &r, edge.missed, func(d *tuning) int { return sizeOf(edge.over(d) - edge.least) })
			if got := impl.Digit(met); got != digit || secondDigit(met) != digit {
				t.Errorf("%d, %s: %d (the second telling: %d) at %v", digit, edge.name, got, secondDigit(met), met)
			}
			if got := impl.Digit(missed); got != -1 || secondDigit(missed) != -1 {
				t.Errorf("%d, %s, missed: %d (the second telling: %d) at %v", digit, edge.name, got, secondDigit(missed), missed)
			}
		}
	}
}

// P13: two rows or two columns with the same power, which is the greatest, hold
// none, whichever of them counts as the first.
func TestDigitOfTwoAlike(t *testing.T) {
	r := drawn(1308)
	for a := range 4 {
		for b := range a {
			rows := mixOf(tone{stepsOfRows[a], 40, 7}, tone{stepsOfRows[b], 40, 99}, tone{stepsOfColumns[b], 40, 11})
			checkDigit(t, tune(t, &r, rows, func(d *tuning) int { return sizeOf(d.row(a) - d.row(b)) }), -1)
			columns := mixOf(tone{stepsOfColumns[a], 40, 7}, tone{stepsOfColumns[b], 40, 99}, tone{stepsOfRows[b], 40, 11})
			checkDigit(t, tune(t, &r, columns, func(d *tuning) int { return sizeOf(d.column(a) - d.column(b)) }), -1)
		}
	}
}
