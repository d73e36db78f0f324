package impl

import "slices"

const MaxNum = 2147483647
const MaxText = 30

const numBits = 7
const numMore = 1 << numBits

// MaxNum has 31 bits, and five bytes of seven are the fewest that hold them.
const numBytes = 5

// What the bytes at a place are, read as a number.
const (
	numWell = iota
	numCut
	numLong
	numPadded
	numAbove
)

func PutNum(b []byte, n int) []byte {
	if n < 0 || n > MaxNum {
		return slices.Concat(b)
	}
	row, size := numRow(n)
	return slices.Concat(b, row[:size])
}

func GetNum(b []byte, at int) (int, int) {
	if at < 0 || at > len(b) {
		return 0, -1
	}
	n, size, code := readNum(b[at:])
	if code != numWell {
		return 0, -1
	}
	return n, at + size
}

func PutText(b []byte, t []byte) []byte {
	if len(t) > MaxText {
		return slices.Concat(b)
	}
	row, size := numRow(len(t))
	return slices.Concat(b, row[:size], t)
}

func GetText(b []byte, at int) ([]byte, int) {
	size, from := GetNum(b, at)
	if from < 0 || size > MaxText || size > len(b)-from {
		return nil, -1
	}
	to := from + size
	return slices.Concat(b[from:to]), to
}

// numRow wants n in 0 .. MaxNum: no other is sure to fit the row.
func numRow(n int) (row [numBytes]byte, size int) {
	for n >= numMore {
		row[size] = byte(n%numMore + numMore)
		n /= numMore
		size++
	}
	row[size] = byte(n)
	return row, size + 1
}

func readNum(b []byte) (n int, size int, code int) {
	for i, x := range b {
		if i == numBytes {
			return 0, 0, numLong
		}
		n += int(x%numMore) << (numBits * i)
		if x < numMore {
			return n, i + 1, endCode(n, i+1, x)
		}
	}
	return 0, 0, numCut
}

// endCode keeps a number to one row of bytes: a last 0 behind others would be
// a second row for it.
func endCode(n int, size int, last byte) int {
	switch {
	case size > 1 && last == 0:
		return numPadded
	case n > MaxNum:
		return numAbove
	}
	return numWell
}
