package tests

import (
	"bytes"
	"math"
	"testing"

	"loop.example/g00353/impl"
)

// numRows are numbers with their bytes, written out by hand.
func numRows() []struct {
	n   int
	row []byte
} {
	return []struct {
		n   int
		row []byte
	}{
		{0, []byte{0}},
		{1, []byte{1}},
		{127, []byte{127}},
		{128, []byte{128, 1}},
		{129, []byte{129, 1}},
		{255, []byte{255, 1}},
		{256, []byte{128, 2}},
		{300, []byte{0xac, 2}},
		{16383, []byte{255, 127}},
		{16384, []byte{128, 128, 1}},
		{2097151, []byte{255, 255, 127}},
		{2097152, []byte{128, 128, 128, 1}},
		{268435455, []byte{255, 255, 255, 127}},
		{268435456, []byte{128, 128, 128, 128, 1}},
		{impl.MaxNum - 1, []byte{254, 255, 255, 255, 7}},
		{impl.MaxNum, []byte{255, 255, 255, 255, 7}},
	}
}

func prefixes() [][]byte {
	return [][]byte{nil, {}, {0}, {9}, {128}, {255, 255, 255, 255, 255, 255}, bytes.Repeat([]byte{200}, 100)}
}

// wrongPlaces are places at which nothing can begin in b.
func wrongPlaces(b []byte) []int {
	return []int{math.MinInt, math.MinInt + 1, -len(b) - 1, -2, -1, len(b), len(b) + 1, len(b) + 5,
		impl.MaxNum, impl.MaxNum + 1, math.MaxInt - 30, math.MaxInt - 1, math.MaxInt}
}

func checkGetNum(t *testing.T, b []byte, at, n, next int) {
	t.Helper()
	if gotN, gotNext := impl.GetNum(b, at); gotN != n || gotNext != next {
		t.Fatalf("GetNum(% x, %d) = %d, %d; want %d, %d", b, at, gotN, gotNext, n, next)
	}
}

func checkNoText(t *testing.T, b []byte, at int) {
	t.Helper()
	if got, next := impl.GetText(b, at); len(got) != 0 || next != -1 {
		t.Fatalf("GetText(% x, %d) = % x, %d; want nothing, -1", b, at, got, next)
	}
}

func checkText(t *testing.T, b []byte, at int, text []byte, next int) {
	t.Helper()
	if got, gotNext := impl.GetText(b, at); !bytes.Equal(got, text) || gotNext != next {
		t.Fatalf("GetText(% x, %d) = % x, %d; want % x, %d", b, at, got, gotNext, text, next)
	}
}

// sampleText has bytes of all sorts, since chapter 1 bars none.
func sampleText(size int) []byte {
	out := make([]byte, size)
	for i := range out {
		out[i] = byte(i*37 + 251)
	}
	return out
}

func TestBytesConstants(t *testing.T) {
	if impl.MaxNum != 2147483647 || impl.MaxText != 30 {
		t.Fatal(impl.MaxNum, impl.MaxText)
	}
}

func TestPutNumRows(t *testing.T) {
	for _, r := range numRows() {
		for _, head := range prefixes() {
			want := joined(head, r.row)
			if got := impl.PutNum(head, r.n); !bytes.Equal(got, want) {
				t.Fatalf("PutNum(% x, %d) = % x; want % x", head, r.n, got, want)
			}
		}
	}
}

func TestPutNumRefused(t *testing.T) {
	for _, n := range []int{math.MinInt, -impl.MaxNum, -300, -128, -1, impl.MaxNum + 1, impl.MaxNum + 2, 1 << 32, 1 << 35, math.MaxInt} {
		for _, head := range prefixes() {
			if got := impl.PutNum(head, n); !bytes.Equal(got, head) {
				t.Fatalf("PutNum(% x, %d) = % x; want the first alone", head, n, got)
			}
		}
	}
}

func TestGetNumRows(t *testing.T) {
	for _, r := range numRows() {
		for _, head := range prefixes() {
			for _, tail := range [][]byte{nil, {0}, {1}, {255}} {
				checkGetNum(t, joined(head, r.row, tail), len(head), r.n, len(head)+len(r.row))
			}
		}
	}
}

func TestNumbersComeBack(t *testing.T) {
	check := func(n int) {
		b := impl.PutNum([]byte{255, 0}, n)
		checkGetNum(t, b, 2, n, len(b))
	}
	for n := range 70000 {
		check(n)
		check(impl.MaxNum - n)
	}
	for n := 0; n <= impl.MaxNum; n += 9973 {
		check(n)
	}
	for bit := range 31 {
		for off := -3; off <= 3; off++ {
			if n := 1<<bit + off; n >= 0 && n <= impl.MaxNum {
				check(n)
			}
		}
	}
}

func TestNumbersOneBehindAnother(t *testing.T) {
	var b []byte
	for _, r := range numRows() {
		b = impl.PutNum(b, r.n)
	}
	at := 0
	for _, r := range numRows() {
		n, next := impl.GetNum(b, at)
		if n != r.n || next != at+len(r.row) {
			t.Fatalf("at %d: %d, %d; want %d, %d", at, n, next, r.n, at+len(r.row))
		}
		at = next
	}
	if at != len(b) {
		t.Fatalf("%d of %d bytes were read", at, len(b))
	}
}

func TestGetNumWrongPlace(t *testing.T) {
	for _, b := range [][]byte{nil, {}, {0}, {5, 6, 7}, {128, 1}, make([]byte, 200)} {
		for _, at := range wrongPlaces(b) {
			checkGetNum(t, b, at, 0, -1)
		}
	}
}

func TestGetNumWrongBytes(t *testing.T) {
	wrong := map[string][][]byte{
		"not all there": {{128}, {255}, {128, 128}, {255, 255, 255}, {129, 128, 128, 128}},
		"more than five": {{128, 128, 128, 128, 128}, {128, 128, 128, 128, 128, 0}, {128, 128, 128, 128, 128, 1},
			{255, 255, 255, 255, 135, 0}, {129, 128, 128, 128, 128, 128, 128, 128, 128, 1}},
		"the last of several is 0": {{128, 0}, {255, 0}, {172, 130, 0}, {129, 128, 128, 0}, {128, 128, 128, 128, 0}, {255, 255, 255, 255, 0}},
		"above MaxNum":             {{128, 128, 128, 128, 8}, {255, 255, 255, 255, 8}, {128, 128, 128, 128, 16}, {255, 255, 255, 255, 127}, {128, 128, 128, 128, 64}},
	}
	for why, rows := range wrong {
		for _, row := range rows {
			for _, head := range prefixes() {
				b := joined(head, row)
				if n, next := impl.GetNum(b, len(head)); n != 0 || next != -1 {
					t.Errorf("%s: GetNum(% x, %d) = %d, %d; want 0, -1", why, b, len(head), n, next)
				}
			}
		}
	}
}

// numberAt is read off the document in another way than the program's: by
// trying each count of bytes, and by taking the highest bits first.
func numberAt(b []byte, at int) (int, int) {
	for size := 1; size <= 5 && at >= 0 && at+size <= len(b); size++ {
		n, shaped := 0, true
		for i := size - 1; i >= 0; i-- {
			x := int(b[at+i])
			if i < size-1 {
				shaped = shaped && x >= 128
				x -= 128
			}
			n = n*128 + x
		}
		fewest := 1
		for rest := n / 128; rest > 0; rest /= 128 {
			fewest++
		}
		if shaped && b[at+size-1] < 128 && n <= 2147483647 && fewest == size {
			return n, at + size
		}
	}
	return 0, -1
}

// someRows goes through all rows of up to six bytes out of those at which
// something changes.
func someRows(do func([]byte)) {
	edge := []byte{0, 1, 7, 8, 30, 127, 128, 255}
	for size := range 7 {
		row := make([]byte, size)
		for i := range 1 << (3 * size) {
			for k := range row {
				row[k] = edge[i>>(3*k)&7]
			}
			do(row)
		}
	}
}

func TestGetNumReadsJustItsBytes(t *testing.T) {
	someRows(func(b []byte) {
		n, next := numberAt(b, 0)
		checkGetNum(t, b, 0, n, next)
		if next >= 0 && !bytes.Equal(impl.PutNum(nil, n), b[:next]) {
			t.Fatalf("% x is read as %d, whose bytes are % x", b[:next], n, impl.PutNum(nil, n))
		}
	})
}

func TestGetNumAllRowsOfTwoBytes(t *testing.T) {
	for i := range 1 << 16 {
		b := []byte{byte(i), byte(i >> 8)}
		n, next := numberAt(b, 0)
		checkGetNum(t, b, 0, n, next)
		n, next = numberAt(b, 1)
		checkGetNum(t, b, 1, n, next)
	}
}

func TestPutTextSizes(t *testing.T) {
	for size := range impl.MaxText + 1 {
		text := sampleText(size)
		for _, head := range prefixes() {
			want := joined(head, []byte{byte(size)}, text)
			got := impl.PutText(head, text)
			if !bytes.Equal(got, want) {
				t.Fatalf("PutText(% x, % x) = % x; want % x", head, text, got, want)
			}
			checkText(t, got, len(head), text, len(want))
			checkText(t, joined(got, []byte{1, 2}), len(head), text, len(want))
		}
	}
}

func TestPutTextRefused(t *testing.T) {
	for _, size := range []int{impl.MaxText + 1, impl.MaxText + 2, 127, 128, 5000} {
		for _, head := range prefixes() {
			if got := impl.PutText(head, sampleText(size)); !bytes.Equal(got, head) {
				t.Fatalf("PutText(% x, %d bytes) = % x; want the first alone", head, size, got)
			}
		}
	}
}

func TestTextsOneBehindAnother(t *testing.T) {
	texts := [][]byte{{}, []byte("ab"), sampleText(impl.MaxText), {}, {0}, {128, 1}}
	var b []byte
	for _, x := range texts {
		b = impl.PutText(b, x)
	}
	at := 0
	for _, x := range texts {
		checkText(t, b, at, x, at+1+len(x))
		at += 1 + len(x)
	}
	checkNoText(t, b, at)
}

func TestGetTextWrongPlace(t *testing.T) {
	for _, b := range [][]byte{nil, {}, {0}, {2, 'a', 'b'}, make([]byte, 200)} {
		for _, at := range wrongPlaces(b) {
			checkNoText(t, b, at)
		}
	}
}

func TestGetTextWrongBytes(t *testing.T) {
	plenty := make([]byte, 20000)
	wrong := map[string][][]byte{
		"above MaxText":    {{31}, {32}, {127}, {128, 1}, {172, 2}, {255, 127}},
		"far above":        {{255, 255, 255, 255, 7}, {128, 128, 128, 128, 4}},
		"no number at all": {{128, 0}, {130, 0}, {128, 128, 128, 128, 8}, {255, 255, 255, 255, 127}, {128, 128, 128, 128, 128, 1}},
	}
	for why, rows := range wrong {
		for _, row := range rows {
			for _, b := range [][]byte{row, joined(row, plenty)} {
				if got, next := impl.GetText(b, 0); len(got) != 0 || next != -1 {
					t.Errorf("%s: GetText(% x.., 0) = % x, %d; want nothing, -1", why, row, got, next)
				}
			}
		}
	}
}

func TestGetTextNotAllThere(t *testing.T) {
	for size := 1; size <= impl.MaxText; size++ {
		whole := joined([]byte{7, byte(size)}, sampleText(size))
		for end := 2; end < len(whole); end++ {
			checkNoText(t, whole[:end], 1)
		}
		checkText(t, whole, 1, sampleText(size), len(whole))
	}
	for _, b := range [][]byte{{128}, {130}, {255, 255}} {
		checkNoText(t, b, 0)
	}
}

func TestGetTextReadsJustItsBytes(t *testing.T) {
	someRows(func(b []byte) {
		size, from := numberAt(b, 0)
		if from < 0 || size > 30 || from+size > len(b) {
			checkNoText(t, b, 0)
			return
		}
		checkText(t, b, 0, b[from:from+size], from+size)
		if got := impl.PutText(nil, b[from:from+size]); !bytes.Equal(got, b[:from+size]) {
			t.Fatalf("% x is read as a text, whose bytes are % x", b[:from+size], got)
		}
	})
}

func TestPutsLeaveArgumentsAlone(t *testing.T) {
	for _, head := range prefixes() {
		for _, n := range []int{0, 127, 128, impl.MaxNum, -1, impl.MaxNum + 1} {
			b := roomy(head)
			got := impl.PutNum(b, n)
			checkUntouched(t, b, head)
			want := bytes.Clone(got)
			spoil(b)
			if !bytes.Equal(got, want) {
				t.Fatalf("PutNum(% x, %d) shares memory with its argument", head, n)
			}
		}
		for _, size := range []int{0, 1, impl.MaxText, impl.MaxText + 1} {
			b, text := roomy(head), roomy(sampleText(size))
			got := impl.PutText(b, text)
			checkUntouched(t, b, head)
			checkUntouched(t, text, sampleText(size))
			want := bytes.Clone(got)
			spoil(b)
			spoil(text)
			if !bytes.Equal(got, want) {
				t.Fatalf("PutText(% x, %d bytes) shares memory with an argument", head, size)
			}
		}
	}
}

func TestAnswersMayBeWrittenInto(t *testing.T) {
	for _, head := range prefixes() {
		b, text := roomy(head), roomy([]byte("abc"))
		for _, n := range []int{5, impl.MaxNum, -1} {
			spoil(impl.PutNum(b, n))
			checkUntouched(t, b, head)
		}
		spoil(impl.PutText(b, text))
		spoil(impl.PutText(b, make([]byte, impl.MaxText+1)))
		checkUntouched(t, b, head)
		checkUntouched(t, text, []byte("abc"))
	}
}

func TestPutTextOfItsOwnSpareRoom(t *testing.T) {
	all := []byte("xyabcd")
	got := impl.PutText(all[:2], all[2:5])
	if string(got) != "xy\x03abc" || string(all) != "xyabcd" {
		t.Fatalf("%q, %q", got, all)
	}
	got = impl.PutText(all, all)
	if string(got) != "xyabcd\x06xyabcd" || string(all) != "xyabcd" {
		t.Fatalf("%q, %q", got, all)
	}
}

func TestGetsLeaveArgumentsAlone(t *testing.T) {
	plain := []byte("\x02ab\x80\x01")
	b := roomy(plain)
	for at := -1; at <= len(b)+1; at++ {
		impl.GetNum(b, at)
		text, _ := impl.GetText(b, at)
		spoil(text)
		checkUntouched(t, b, plain)
	}
	text, next := impl.GetText(b, 0)
	spoil(b)
	if string(text) != "ab" || next != 3 {
		t.Fatalf("%q, %d: the text shares memory with its argument", text, next)
	}
}

func TestGetsDoNotReadBehindTheLength(t *testing.T) {
	all := []byte{128, 1, 2, 'a', 'b'}
	checkGetNum(t, all[:1], 0, 0, -1)
	checkGetNum(t, all[:0], 0, 0, -1)
	checkGetNum(t, all[:2], 2, 0, -1)
	checkNoText(t, all[:4], 2)
	checkNoText(t, all[:2], 2)
	checkText(t, all, 2, []byte("ab"), 5)
}

func TestBytesCallsKeepNothing(t *testing.T) {
	b := []byte("\x02ab")
	got, _ := impl.GetText(b, 0)
	spoil(got)
	spoil(impl.PutText(b, b))
	spoil(impl.PutNum(b, 300))
	if again := impl.PutText(b, b); string(again) != "\x02ab\x03\x02ab" {
		t.Fatalf("%q", again)
	}
	if again := impl.PutNum(b, 300); string(again) != "\x02ab\xac\x02" {
		t.Fatalf("%q", again)
	}
	checkText(t, b, 0, []byte("ab"), 3)
}
