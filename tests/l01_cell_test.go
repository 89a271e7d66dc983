package tests

import (
	"bytes"
	"math"
	"slices"
	"testing"

	"loop.example/g00052/impl"
)

// someBytes are n bytes among which all values come, 0 and 255 too.
func someBytes(n int) []byte {
	b := make([]byte, n)
	for i := range b {
		b[i] = byte(i*37 + 218)
	}
	return b
}

// fullCells are n cells of 15 bytes each, none of them marked as the last.
func fullCells(n int) [][16]byte {
	var list [][16]byte
	b := someBytes(15 * n)
	for i := range n {
		cell := [16]byte{byte(15 + 16*(i%8))}
		copy(cell[1:], b[15*i:])
		list = append(list, cell)
	}
	return list
}

func TestCellConstants(t *testing.T) {
	got := []int{impl.CellSize, impl.MaxCells, impl.MaxBits, impl.CellOk, impl.CellCount, impl.CellPad, impl.CellOrder, impl.CellEnd, impl.CellMany}
	if !slices.Equal(got, []int{16, 60, 2000, 0, 1, 2, 3, 4, 5}) {
		t.Error(got)
	}
}

func TestCutWhereAllAreThere(t *testing.T) {
	b := someBytes(40)
	for at := 0; at <= 24; at++ {
		cell, ok := impl.Cut(b, at)
		if !ok || !bytes.Equal(cell[:], b[at:at+16]) {
			t.Error(at, cell, ok)
		}
	}
	if cell, ok := impl.Cut(b[:16], 0); !ok || !bytes.Equal(cell[:], b[:16]) {
		t.Error("just sixteen", cell, ok)
	}
}

func TestCutWhereSomeAreMissing(t *testing.T) {
	b := bytes.Repeat([]byte{7}, 200)
	for _, n := range []int{0, 1, 15, 16, 17, 40} {
		places := []int{n - 15, n - 1, n, n + 1, n + 16, 1000, -1, -2, -15, -16, -17, -n,
			math.MaxInt, math.MaxInt - 15, math.MaxInt - 16, math.MaxInt - 17, math.MinInt, math.MinInt + 1, math.MinInt + 15, math.MinInt + 16,
			math.MaxInt32, math.MinInt32, 1 << 32, 1<<32 + 1, -(1 << 32)}
		for _, at := range places {
			if at >= 0 && at <= n-16 {
				continue
			}
			if cell, ok := impl.Cut(b[:n], at); ok || cell != [16]byte{} {
				t.Error(n, at, cell, ok)
			}
		}
	}
	if cell, ok := impl.Cut(nil, 0); ok || cell != [16]byte{} {
		t.Error("nil", cell, ok)
	}
}

func TestCellsOfKnownBytes(t *testing.T) {
	for _, c := range []struct {
		b    []byte
		want [][16]byte
	}{
		{[]byte{9}, [][16]byte{{129, 9}}},
		{[]byte{0}, [][16]byte{{129, 0}}},
		{[]byte("ABCDEFGHIJKLMN"), [][16]byte{{142, 'A', 'B', 'C', 'D', 'E', 'F', 'G', 'H', 'I', 'J', 'K', 'L', 'M', 'N'}}},
		{[]byte("ABCDEFGHIJKLMNO"), [][16]byte{{143, 'A', 'B', 'C', 'D', 'E', 'F', 'G', 'H', 'I', 'J', 'K', 'L', 'M', 'N', 'O'}}},
		{[]byte("ABCDEFGHIJKLMNOP"), [][16]byte{{15, 'A', 'B', 'C', 'D', 'E', 'F', 'G', 'H', 'I', 'J', 'K', 'L', 'M', 'N', 'O'}, {145, 'P'}}},
	} {
		if got := impl.Cells(c.b); !slices.Equal(got, c.want) {
			t.Error(c.b, got)
		}
	}
}

func TestCellsOfEveryLength(t *testing.T) {
	for n := 1; n <= 15*impl.MaxCells; n++ {
		b := someBytes(n)
		list := impl.Cells(b)
		if len(list) != (n+14)/15 {
			t.Fatal(n, "has cells:", len(list))
		}
		for i, cell := range list {
			var want [16]byte
			want[0] = byte(copy(want[1:], b[15*i:]) + 16*(i%8))
			if i == len(list)-1 {
				want[0] += 128
			}
			if cell != want {
				t.Fatal(n, i, cell, want)
			}
		}
	}
}

func TestCellsThatAreNone(t *testing.T) {
	for _, b := range [][]byte{nil, {}, someBytes(1)[:0], someBytes(15*impl.MaxCells + 1), someBytes(15*impl.MaxCells + 15), someBytes(10000)} {
		if list := impl.Cells(b); len(list) != 0 {
			t.Error(len(b), list)
		}
	}
}

func TestUncellsOfCells(t *testing.T) {
	for n := 1; n <= 15*impl.MaxCells; n++ {
		for _, b := range [][]byte{someBytes(n), make([]byte, n), bytes.Repeat([]byte{255}, n)} {
			if got, code := impl.Uncells(impl.Cells(b)); code != impl.CellOk || !bytes.Equal(got, b) {
				t.Fatal(n, code, got)
			}
		}
	}
}

func TestUncellsCodes(t *testing.T) {
	full := fullCells(2)
	all := someBytes(30)
	dirty := full[1]
	dirty[0] += 128
	for _, c := range []struct {
		name string
		list [][16]byte
		want []byte
		code int
	}{
		{"count 0 in the last", [][16]byte{{128}}, nil, impl.CellCount},
		{"count 0 in another", [][16]byte{{0}, {145, 1}}, nil, impl.CellCount},
		{"count 14 in another", [][16]byte{full[0], {30, 1}, {161, 1}}, all[:15], impl.CellCount},
		{"count 1 in another", [][16]byte{{1, 1}, {145, 1}}, nil, impl.CellCount},
		{"pad next to what counts", [][16]byte{{129, 1, 2}}, nil, impl.CellPad},
		{"pad at the end", [][16]byte{full[0], {145, 1, 15: 255}}, all[:15], impl.CellPad},
		{"pad of one byte", [][16]byte{{142, 15: 1}}, nil, impl.CellPad},
		{"the first is not 0", [][16]byte{{145, 1}}, nil, impl.CellOrder},
		{"a number twice", [][16]byte{full[0], {129, 1}}, all[:15], impl.CellOrder},
		{"a number left out", [][16]byte{full[0], {161, 1}}, all[:15], impl.CellOrder},
		{"behind the last", [][16]byte{{129, 5}, {145, 6}}, []byte{5}, impl.CellEnd},
		{"a full one behind a full last", [][16]byte{{143, 15: 3}, full[1]}, append(make([]byte, 14), 3), impl.CellEnd},
		{"none is the last", full, all, impl.CellEnd},
		{"none is there", nil, nil, impl.CellEnd},
		{"a full last", [][16]byte{full[0], dirty}, all, impl.CellOk},
		{"nothing but noughts", [][16]byte{{130}}, []byte{0, 0}, impl.CellOk},
	} {
		if got, code := impl.Uncells(c.list); code != c.code || !bytes.Equal(got, c.want) {
			t.Error(c.name, got, code)
		}
	}
}

func TestUncellsOfSeveralFaults(t *testing.T) {
	last := [16]byte{129, 5}
	for _, c := range []struct {
		name string
		cell [16]byte
		code int
	}{
		{"count, pad, order, end", [16]byte{0, 1}, impl.CellCount},
		{"count 0 of a last, pad, end", [16]byte{144, 1}, impl.CellCount},
		{"count, pad, end", [16]byte{18, 1, 2, 3}, impl.CellCount},
		{"count, order, end", [16]byte{34, 1, 2}, impl.CellCount},
		{"count, end", [16]byte{18, 1, 2}, impl.CellCount},
		{"pad, order, end", [16]byte{162, 1, 2, 3}, impl.CellPad},
		{"pad, end", [16]byte{146, 1, 2, 3}, impl.CellPad},
		{"order, end", [16]byte{162, 1, 2}, impl.CellOrder},
		{"order, end of a full one", [16]byte{47}, impl.CellOrder},
		{"end", [16]byte{146, 1, 2}, impl.CellEnd},
	} {
		if got, code := impl.Uncells([][16]byte{last, c.cell}); code != c.code || !bytes.Equal(got, []byte{5}) {
			t.Error(c.name, got, code)
		}
	}
	for _, c := range []struct {
		cell [16]byte
		code int
	}{{[16]byte{16, 1}, impl.CellCount}, {[16]byte{18, 1, 2, 3}, impl.CellCount}, {[16]byte{146, 1, 2, 3}, impl.CellPad}, {[16]byte{146, 1, 2}, impl.CellOrder}} {
		if got, code := impl.Uncells([][16]byte{c.cell}); code != c.code || len(got) != 0 {
			t.Error("alone", c.cell, got, code)
		}
	}
}

func TestUncellsTellsTheFirstCell(t *testing.T) {
	full := fullCells(1)[0]
	ended := [16]byte{145, 1}
	faulty := []struct {
		cell [16]byte
		code int
	}{{[16]byte{144}, impl.CellCount}, {[16]byte{145, 1, 2}, impl.CellPad}, {[16]byte{161, 1}, impl.CellOrder}}
	for _, a := range faulty {
		for _, b := range faulty {
			if got, code := impl.Uncells([][16]byte{full, a.cell, b.cell}); code != a.code || !bytes.Equal(got, full[1:]) {
				t.Error(a, b, got, code)
			}
		}
	}
	for _, b := range faulty {
		list := [][16]byte{full, ended, {161, 1}, b.cell}
		if got, code := impl.Uncells(list); code != impl.CellEnd || !bytes.Equal(got, countedAnd(full, 1)) {
			t.Error(b, got, code)
		}
	}
}

// countedAnd are the bytes of a full cell and some more.
func countedAnd(cell [16]byte, more ...byte) []byte {
	return append(slices.Clone(cell[1:]), more...)
}

// codeOfHead is the document's order of faults for one cell, told by its parts.
func codeOfHead(head byte, dirty bool, place int, ended bool) int {
	count, number, last := head&15, int(head>>4&7), head>>7 == 1
	if count == 0 || !last && count != 15 {
		return impl.CellCount
	}
	if dirty {
		return impl.CellPad
	}
	if number != place%8 {
		return impl.CellOrder
	}
	if ended || !last {
		return impl.CellEnd
	}
	return impl.CellOk
}

func TestUncellsOfEveryHead(t *testing.T) {
	for _, place := range []int{0, 1, 2, 7, 8, 9, 15, 16, 59} {
		for _, ended := range []bool{false, true} {
			for head := range 256 {
				for pad := range 16 {
					checkHead(t, byte(head), pad, place, ended && place > 0)
				}
			}
		}
	}
}

// checkHead asks for a cell behind so many full ones, whose byte at pad is
// turned if it does not count.
func checkHead(t *testing.T, head byte, pad int, place int, ended bool) {
	t.Helper()
	list := fullCells(place)
	want := someBytes(15 * place)
	if ended {
		list[place-1][0] += 128
	}
	count := int(head & 15)
	cell := [16]byte{head}
	for k := range count {
		cell[1+k] = byte(k * 3)
	}
	dirty := pad > count
	if dirty {
		cell[pad] = 64
	}
	code := codeOfHead(head, dirty, place, ended)
	if code == impl.CellOk || code == impl.CellEnd && !ended {
		want = append(want, cell[1:1+count]...)
	}
	if got, told := impl.Uncells(append(list, cell)); told != code || !bytes.Equal(got, want) {
		t.Fatal("head", head, "pad", pad, "place", place, ended, "told", told, "not", code, got)
	}
}

func TestUncellsLimit(t *testing.T) {
	list := fullCells(impl.MaxCells)
	all := someBytes(15 * impl.MaxCells)
	if got, code := impl.Uncells(list); code != impl.CellEnd || !bytes.Equal(got, all) {
		t.Error("all, none is the last", len(got), code)
	}
	list[impl.MaxCells-1][0] += 128
	if got, code := impl.Uncells(list); code != impl.CellOk || !bytes.Equal(got, all) {
		t.Error("all", len(got), code)
	}
	right := fullCells(impl.MaxCells + 1)
	right[impl.MaxCells][0] += 128
	for name, many := range map[string][][16]byte{
		"right but for their number": right,
		"none is the last":           fullCells(impl.MaxCells + 1),
		"noughts":                    make([][16]byte, impl.MaxCells+1),
		"a great many":               fullCells(500),
		"one behind the last":        append(list, [16]byte{193, 1}),
	} {
		if got, code := impl.Uncells(many); code != impl.CellMany || len(got) != 0 {
			t.Error(name, got, code)
		}
	}
}

func TestCellSumOfKnownCells(t *testing.T) {
	if s := impl.CellSum([16]byte{}); s != 0 {
		t.Error("noughts", s)
	}
	if s := impl.CellSum([16]byte([]byte("ABCDEFGHIJKLMNOP"))); s != 160 {
		t.Error("letters", s)
	}
	if s := impl.CellSum([16]byte(bytes.Repeat([]byte{255}, 16))); s != 42 {
		t.Error("the greatest", s)
	}
	for i := range 16 {
		for v := range 256 {
			var cell [16]byte
			cell[i] = byte(v)
			if s := impl.CellSum(cell); s != v*(i+1)%251 {
				t.Fatal("one byte", i, v, s)
			}
		}
	}
}

func TestCellSumOfTurnedBytes(t *testing.T) {
	for _, cell := range [][16]byte{{}, [16]byte(someBytes(16)), [16]byte(bytes.Repeat([]byte{255}, 16)), impl.Cells(someBytes(9))[0]} {
		sum := impl.CellSum(cell)
		for i := range 16 {
			for v := range 256 {
				turned := cell
				turned[i] = byte(v)
				by := v - int(cell[i])
				same := by == 0 || by == 251 || by == -251
				if (impl.CellSum(turned) == sum) != same {
					t.Fatal(cell, i, v)
				}
			}
		}
	}
}

func TestCellXor(t *testing.T) {
	a, b := [16]byte(someBytes(16)), [16]byte(someBytes(60)[44:])
	x := impl.CellXor(a, b)
	for i := range 16 {
		if x[i] != a[i]^b[i] {
			t.Error(i, x[i])
		}
	}
	if impl.CellXor(x, b) != a || impl.CellXor(x, a) != b || impl.CellXor(b, a) != x {
		t.Error("twice")
	}
	if impl.CellXor(a, a) != [16]byte{} || impl.CellXor(a, [16]byte{}) != a {
		t.Error("itself, noughts")
	}
}

func TestCellsKeepToTheirMemory(t *testing.T) {
	for _, n := range []int{0, 1, 15, 16, 33, 15 * impl.MaxCells, 15*impl.MaxCells + 1} {
		g := guard(251, someBytes(n))
		first, second := impl.Cells(g.list), impl.Cells(g.list)
		want := slices.Clone(second)
		scribble(first, [16]byte(bytes.Repeat([]byte{99}, 16)))
		if !g.untouched() || !slices.Equal(second, want) || !slices.Equal(impl.Cells(g.list), want) {
			t.Error("cells", n)
		}
		cell, ok := impl.Cut(g.list, n-16)
		scribble(cell[:], 99)
		if !g.untouched() || ok != (n >= 16) {
			t.Error("cut", n, ok)
		}
	}
}

func TestCutStopsAtTheLength(t *testing.T) {
	g := guard(251, someBytes(20))
	for _, at := range []int{5, 6, 19, 20, 21, 40} {
		if cell, ok := impl.Cut(g.list, at); ok || cell != [16]byte{} {
			t.Error(at, cell, ok)
		}
	}
	if cell, ok := impl.Cut(g.list, 4); !ok || cell[15] != g.list[19] {
		t.Error(cell, ok)
	}
}

func TestCellsStopAtTheLength(t *testing.T) {
	if list := impl.Cells(guard(251, []byte{9, 8}).list); !slices.Equal(list, [][16]byte{{130, 9, 8}}) {
		t.Error("cells", list)
	}
	open := guard([16]byte{145, 1}, fullCells(1))
	if got, code := impl.Uncells(open.list); code != impl.CellEnd || !bytes.Equal(got, someBytes(15)) {
		t.Error("the last one stands behind the length", got, code)
	}
	closed := guard([16]byte{145, 1}, [][16]byte{{129, 9}})
	if got, code := impl.Uncells(closed.list); code != impl.CellOk || !bytes.Equal(got, []byte{9}) {
		t.Error("what stands behind the length counts", got, code)
	}
}

func TestUncellsKeepToTheirMemory(t *testing.T) {
	whole := impl.Cells(someBytes(50))
	behind := append(slices.Clone(whole), [16]byte{193, 1})
	for i, list := range [][][16]byte{nil, whole, whole[:2], behind, {{144}}, fullCells(impl.MaxCells + 1)} {
		g := guard([16]byte{255, 1, 2}, list)
		first, code := impl.Uncells(g.list)
		second, _ := impl.Uncells(g.list)
		want := slices.Clone(second)
		scribble(first, 99)
		third, again := impl.Uncells(g.list)
		if !g.untouched() || !bytes.Equal(second, want) || !bytes.Equal(third, want) || code != again {
			t.Error(i, second, third, code, again)
		}
	}
}
