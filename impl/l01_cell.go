package impl

const (
	CellSize = 16
	MaxCells = 60
	MaxBits  = 2000
)

const (
	CellOk    = 0
	CellCount = 1
	CellPad   = 2
	CellOrder = 3
	CellEnd   = 4
	CellMany  = 5
)

// A cell's first byte keeps three things apart: the count below 16, the
// number in the three bits above it, the mark of the last cell on top.
const (
	cellRoom    = CellSize - 1
	cellNumbers = 8
	cellLast    = 128
)

// oneRun is how many 1 in a row a 0 is put behind.
const oneRun = 5

func Cut(b []byte, at int) ([16]byte, bool) {
	// The length is lessened, as at plus CellSize could wrap round.
	if at < 0 || at > len(b)-CellSize {
		return [16]byte{}, false
	}
	return [16]byte(b[at : at+CellSize]), true
}

func Cells(b []byte) [][16]byte {
	if len(b) > MaxCells*cellRoom {
		return nil
	}
	var list [][16]byte
	for at := 0; at < len(b); at += cellRoom {
		end := min(at+cellRoom, len(b))
		list = append(list, fillCell(b[at:end], len(list), end == len(b)))
	}
	return list
}

func fillCell(bytes []byte, number int, last bool) [16]byte {
	var cell [16]byte
	cell[0] = byte(len(bytes) + CellSize*(number%cellNumbers))
	if last {
		cell[0] += cellLast
	}
	copy(cell[1:], bytes)
	return cell
}

func Uncells(list [][16]byte) ([]byte, int) {
	if len(list) > MaxCells {
		return nil, CellMany
	}
	var b []byte
	ended := false
	for i, cell := range list {
		if code := faultOfCell(cell, i, ended); code != CellOk {
			return b, code
		}
		b = append(b, cell[1:1+countOfCell(cell)]...)
		ended = isLastCell(cell)
	}
	if !ended {
		return b, CellEnd
	}
	return b, CellOk
}

// faultOfCell asks in the order of the codes, as the first one named counts.
func faultOfCell(cell [16]byte, number int, ended bool) int {
	count := countOfCell(cell)
	switch {
	case count == 0, count < cellRoom && !isLastCell(cell):
		return CellCount
	case cell != withoutPad(cell):
		return CellPad
	case numberOfCell(cell) != number%cellNumbers:
		return CellOrder
	case ended:
		return CellEnd
	}
	return CellOk
}

func countOfCell(cell [16]byte) int { return int(cell[0]) % CellSize }

func numberOfCell(cell [16]byte) int { return int(cell[0]) / CellSize % cellNumbers }

func isLastCell(cell [16]byte) bool { return cell[0] >= cellLast }

func withoutPad(cell [16]byte) [16]byte {
	clear(cell[1+countOfCell(cell):])
	return cell
}

func CellSum(cell [16]byte) int {
	sum := 0
	for i, x := range cell {
		sum += int(x) * (i + 1)
	}
	return sum % 251
}

func CellXor(a [16]byte, b [16]byte) [16]byte {
	for i := range a {
		a[i] ^= b[i]
	}
	return a
}

func Stuff(bits []int) ([]int, bool) {
	if len(bits) > MaxBits || !areBits(bits) {
		return nil, false
	}
	var out []int
	ones := 0
	for _, bit := range bits {
		out = append(out, bit)
		ones = onesBehind(ones, bit)
		if ones == oneRun {
			out = append(out, 0)
			ones = 0
		}
	}
	return out, true
}

func Unstuff(bits []int) ([]int, bool) {
	if len(bits) > 2*MaxBits || !areBits(bits) {
		return nil, false
	}
	var out []int
	ones := 0
	for _, bit := range bits {
		if ones < oneRun {
			out = append(out, bit)
		} else if bit == 1 {
			return nil, false
		}
		ones = onesBehind(ones, bit)
	}
	if ones == oneRun {
		return nil, false
	}
	return out, true
}

func areBits(bits []int) bool {
	for _, bit := range bits {
		if bit != 0 && bit != 1 {
			return false
		}
	}
	return true
}

func onesBehind(ones int, bit int) int {
	if bit == 1 {
		return ones + 1
	}
	return 0
}
