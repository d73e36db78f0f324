package tests

import (
	"bytes"
	"fmt"
	"math"
	"math/rand/v2"
	"slices"
	"strings"
	"testing"

	"loop.example/g00353/impl"
)

func id(n, rep int) impl.Id { return impl.Id{N: n, Rep: rep} }

func key(numbers ...int) []int { return numbers }

// zeros is a row of that many zeros with the given numbers behind them.
func zeros(count int, numbers ...int) []int { return append(make([]int, count), numbers...) }

func TestOpsConstants(t *testing.T) {
	if impl.MaxReps != 8 || impl.MaxClock != 1000000 || impl.MaxKey != 12 || impl.KeyTop != 999 {
		t.Fatal("a limit is not as the document has it")
	}
	if impl.OpNew != 0 || impl.OpMove != 1 || impl.OpText != 2 || impl.OpAttr != 3 {
		t.Fatal("a kind is not as the document has it")
	}
}

// rising are stamps in their order, those that may not be among them.
func rising() []impl.Id {
	var out []impl.Id
	numbers := []int{math.MinInt, -2, -1, 0, 1, 2, 7, 8, impl.MaxClock, impl.MaxClock + 1, math.MaxInt}
	for _, n := range numbers {
		for _, rep := range numbers {
			out = append(out, id(n, rep))
		}
	}
	return out
}

func TestLess(t *testing.T) {
	for _, r := range []struct {
		a, b impl.Id
		want bool
	}{
		{id(1, 0), id(2, 0), true},
		{id(2, 0), id(1, 0), false},
		{id(1, 0), id(1, 1), true},
		{id(1, 1), id(1, 0), false},
		{id(1, 7), id(2, 0), true},
		{id(2, 0), id(1, 7), false},
		{id(1, 0), id(2, 7), true},
		{id(2, 7), id(1, 0), false},
		{id(3, 3), id(3, 3), false},
		{id(0, 0), id(0, 0), false},
		{id(0, 121), id(1, 0), true},
		{id(9, 0), id(10, 0), true},
		{id(impl.MaxClock, 6), id(impl.MaxClock, 7), true},
	} {
		if got := impl.Less(r.a, r.b); got != r.want {
			t.Errorf("Less(%v, %v) is %v", r.a, r.b, got)
		}
	}
}

func TestLessIsAnOrder(t *testing.T) {
	for i, a := range rising() {
		for j, b := range rising() {
			if got := impl.Less(a, b); got != (i < j) {
				t.Fatalf("Less(%v, %v) is %v", a, b, got)
			}
		}
	}
}

func TestKeyLess(t *testing.T) {
	for _, r := range []struct {
		a, b []int
		want bool
	}{
		{key(1), key(2), true},
		{key(2), key(1), false},
		{key(1, 999), key(2), true},
		{key(2), key(1, 999), false},
		{key(1, 2, 3), key(1, 2, 4), true},
		{key(1, 2, 4), key(1, 2, 3), false},
		{key(1, 3, 1), key(1, 2, 9), false},
		{key(1, 2, 9, 9), key(1, 3), true},
		{key(5), key(5, 1), true},
		{key(5, 1), key(5), false},
		{key(5), key(5, 0), true},
		{key(5, 0), key(5), false},
		{key(5, 0, 0), key(5, 0), false},
		{nil, key(1), true},
		{nil, key(0), true},
		{key(), key(-1), true},
		{key(1), nil, false},
		{key(-1), key(), false},
		{nil, nil, false},
		{key(), nil, false},
		{nil, key(), false},
		{key(7, 8), key(7, 8), false},
		{key(10), key(9), false},
		{key(9), key(10), true},
		{key(math.MinInt), key(math.MaxInt), true},
		{key(math.MaxInt), key(math.MinInt), false},
		{key(-1), key(0), true},
	} {
		if got := impl.KeyLess(r.a, r.b); got != r.want {
			t.Errorf("KeyLess(%v, %v) is %v", r.a, r.b, got)
		}
	}
}

// spelt is a text whose order is that of the row: each number has the same
// width there, so that the order of bytes is enough.
func spelt(row []int) string {
	var out strings.Builder
	for _, n := range row {
		fmt.Fprintf(&out, "%020d", uint64(n)^(1<<63))
	}
	return out.String()
}

// rowsOf goes through all rows of up to most numbers out of the given ones.
func rowsOf(most int, numbers ...int) [][]int {
	out := [][]int{nil}
	for from := 0; most > 0; most-- {
		to := len(out)
		for _, row := range out[from:to] {
			for _, n := range numbers {
				out = append(out, append(slices.Clone(row), n))
			}
		}
		from = to
	}
	return out
}

func TestKeyLessIsAnOrder(t *testing.T) {
	rows := rowsOf(3, math.MinInt, -1, 0, 1, 2, 998, 999, math.MaxInt)
	words := make([]string, len(rows))
	for i, row := range rows {
		words[i] = spelt(row)
	}
	for i, a := range rows {
		for j, b := range rows {
			if got := impl.KeyLess(a, b); got != (words[i] < words[j]) {
				t.Fatalf("KeyLess(%v, %v) is %v", a, b, got)
			}
		}
	}
}

func TestKeyLessOfLongRows(t *testing.T) {
	long := zeros(1000)
	for at := range long {
		more := slices.Clone(long)
		more[at] = 1
		if !impl.KeyLess(long, more) || impl.KeyLess(more, long) || impl.KeyLess(more, slices.Clone(more)) {
			t.Fatalf("rows that differ at %d", at)
		}
		if !impl.KeyLess(long[:at], long) || impl.KeyLess(long, long[:at]) {
			t.Fatalf("the first %d of a row", at)
		}
	}
}

func mayBeKey(row []int) bool {
	return len(row) >= 1 && len(row) <= 12 && slices.Min(row) >= 0 && slices.Max(row) <= 999 && row[len(row)-1] > 0
}

// between is read off the document in another way than the program's: by the
// first numbers and what is behind them. Of b nothing is left where it is free.
func between(a, b []int, free bool, room int) ([]int, bool) {
	if room == 0 {
		return nil, false
	}
	lo, hi := 0, 1000
	if len(a) > 0 {
		lo, a = a[0], a[1:]
	}
	if !free {
		hi, b = b[0], b[1:]
	}
	if hi >= lo+2 {
		return []int{(lo + hi) / 2}, true
	}
	rest, ok := between(a, b, free || hi > lo, room-1)
	if !ok {
		return nil, false
	}
	return append([]int{lo}, rest...), true
}

func betweenOf(a, b []int) ([]int, bool) {
	aOk, bOk := len(a) == 0 || mayBeKey(a), len(b) == 0 || mayBeKey(b)
	if !aOk || !bOk || len(b) > 0 && spelt(a) >= spelt(b) {
		return nil, false
	}
	return between(a, b, len(b) == 0, 12)
}

// checkBetween holds what is told against want, and against what the promise
// says of it.
func checkBetween(t *testing.T, a, b, want []int, wantOk bool) {
	t.Helper()
	got, ok := impl.Between(a, b)
	if ok != wantOk || !slices.Equal(got, want) {
		t.Fatalf("Between(%v, %v) = %v, %v; want %v, %v", a, b, got, ok, want, wantOk)
	}
	if !ok {
		return
	}
	if !mayBeKey(got) {
		t.Fatalf("Between(%v, %v) = %v, which is no key", a, b, got)
	}
	if !impl.KeyLess(a, got) || len(b) > 0 && !impl.KeyLess(got, b) || spelt(a) >= spelt(got) || len(b) > 0 && spelt(got) >= spelt(b) {
		t.Fatalf("Between(%v, %v) = %v, which is not between", a, b, got)
	}
}

func checkBetweenAsRead(t *testing.T, a, b []int) bool {
	t.Helper()
	want, ok := betweenOf(a, b)
	checkBetween(t, a, b, want, ok)
	return ok
}

func TestBetween(t *testing.T) {
	for _, r := range []struct{ a, b, want []int }{
		{nil, nil, key(500)},
		{key(1), nil, key(500)},
		{key(500), nil, key(750)},
		{key(998), nil, key(999)},
		{key(999), nil, key(999, 500)},
		{key(999, 999), nil, key(999, 999, 500)},
		{key(999, 998), nil, key(999, 999)},
		{key(997, 5), nil, key(998)},
		{key(998, 999), nil, key(999)},
		{nil, key(999), key(499)},
		{nil, key(500), key(250)},
		{nil, key(3), key(1)},
		{nil, key(2), key(1)},
		{nil, key(1), key(0, 500)},
		{nil, key(0, 1), key(0, 0, 500)},
		{nil, key(0, 2), key(0, 1)},
		{nil, key(1, 1), key(0, 500)},
		{nil, key(2, 1), key(1)},
		{nil, key(0, 0, 999), key(0, 0, 499)},
		{key(1), key(999), key(500)},
		{key(0, 1), key(999), key(499)},
		{key(250), key(500), key(375)},
		{key(7), key(10), key(8)},
		{key(7), key(9), key(8)},
		{key(7), key(8), key(7, 500)},
		{key(7, 1), key(8), key(7, 500)},
		{key(7, 500), key(8), key(7, 750)},
		{key(7, 998), key(8), key(7, 999)},
		{key(7, 999), key(8), key(7, 999, 500)},
		{key(7, 999), key(8, 1), key(7, 999, 500)},
		{key(7, 999), key(9, 1), key(8)},
		{key(7, 1), key(7, 2), key(7, 1, 500)},
		{key(7, 1), key(7, 3), key(7, 2)},
		{key(7), key(7, 1), key(7, 0, 500)},
		{key(7), key(7, 2), key(7, 1)},
		{key(7), key(7, 0, 1), key(7, 0, 0, 500)},
		{key(7), key(7, 0, 2), key(7, 0, 1)},
		{key(7), key(7, 999), key(7, 499)},
		{key(7, 0, 1), key(7, 1), key(7, 0, 500)},
		{key(7, 0, 999), key(7, 1), key(7, 0, 999, 500)},
		{key(0, 999), key(1), key(0, 999, 500)},
		{key(998, 999, 1), key(999), key(998, 999, 500)},
		{key(999), key(999, 999), key(999, 499)},
		{key(0, 0, 1), key(0, 0, 2), key(0, 0, 1, 500)},
		{key(3, 4, 5), key(3, 5, 1), key(3, 4, 502)},
		{key(3, 4), key(3, 5, 0, 1), key(3, 4, 500)},
	} {
		checkBetween(t, r.a, r.b, r.want, true)
	}
}

// A b that is free behind the first number in which hi is above lo no longer
// holds what comes behind it down.
func TestBetweenWhereBIsFree(t *testing.T) {
	for _, tail := range [][]int{nil, key(1), key(0, 1), key(999), key(0, 0, 0, 5)} {
		b := append(key(4, 6), tail...)
		checkBetween(t, key(4, 5), b, key(4, 5, 500), true)
		checkBetween(t, key(4, 5, 999), b, key(4, 5, 999, 500), true)
		checkBetween(t, key(4, 5, 998), b, key(4, 5, 999), true)
		checkBetween(t, key(4, 5, 600, 7), b, key(4, 5, 800), true)
	}
	checkBetween(t, key(4, 6), key(4, 6, 1), key(4, 6, 0, 500), true)
}

func TestBetweenOfLongKeys(t *testing.T) {
	most := impl.MaxKey
	tops := slices.Repeat(key(999), most)
	for _, r := range []struct {
		a, b, want []int
	}{
		{tops[:most-1], nil, append(slices.Clone(tops[:most-1]), 500)},
		{append(slices.Clone(tops[:most-1]), 998), nil, tops},
		{append(slices.Clone(tops[:most-2]), 998, 999), nil, tops[:most-1]},
		{zeros(most-1, 1), nil, key(500)},
		{nil, zeros(most-1, 2), zeros(most-1, 1)},
		{nil, zeros(most-1, 999), zeros(most-1, 499)},
		{nil, zeros(most-2, 1), zeros(most-1, 500)},
		{nil, zeros(most-2, 1, 1), zeros(most-1, 500)},
		{zeros(most-1, 1), zeros(most-1, 3), zeros(most-1, 2)},
		{zeros(most-1, 1), zeros(most-2, 1), zeros(most-1, 500)},
		{zeros(most-1, 998), zeros(most-2, 1), zeros(most-1, 999)},
		{zeros(most-1, 1), key(1), zeros(1, 500)},
		{key(5), append(key(5), zeros(most-2, 2)...), append(key(5), zeros(most-2, 1)...)},
		{append(key(5), tops[:most-2]...), key(6), append(append(key(5), tops[:most-2]...), 500)},
	} {
		checkBetween(t, r.a, r.b, r.want, true)
	}
	for _, r := range [][2][]int{
		{tops, nil},
		{nil, zeros(most-1, 1)},
		{zeros(most-1, 1), zeros(most-1, 2)},
		{zeros(most-1, 999), zeros(most-2, 1)},
		{zeros(most-2, 1), zeros(most-2, 1, 1)},
		{zeros(most-2, 5, 998), zeros(most-2, 5, 999)},
		{append(key(5), tops[:most-1]...), key(6)},
		{append(key(5), tops[:most-1]...), key(6, 1)},
		{append(key(998), tops[:most-1]...), key(999)},
		{key(5), append(key(5), zeros(most-2, 1)...)},
		{tops[:most-1], append(slices.Clone(tops[:most-1]), 1)},
		{append(slices.Clone(tops[:most-1]), 998), tops},
	} {
		checkBetween(t, r[0], r[1], nil, false)
	}
}

func TestBetweenNotLess(t *testing.T) {
	for _, r := range [][2][]int{
		{key(2), key(2)}, {key(3), key(2)}, {key(2, 1), key(2)}, {key(2, 0, 1), key(2)}, {key(999), key(1)},
		{key(2, 5), key(2, 5)}, {key(2, 5), key(2, 4, 999)}, {key(1), key(0, 999)}, {zeros(11, 2), zeros(11, 1)},
		{key(5, 5), key(3)},
	} {
		checkBetween(t, r[0], r[1], nil, false)
	}
}

// noKeys are rows that are neither empty nor keys.
func noKeys() [][]int {
	return [][]int{
		{0}, {5, 0}, {0, 0}, {1, 2, 0}, zeros(impl.MaxKey), append(key(1), zeros(impl.MaxKey-1)...),
		{-1}, {5, -1}, {-1, 5}, {5, -1, 5}, {math.MinInt}, {math.MinInt, 1},
		{1000}, {5, 1000}, {1000, 5}, {5, 1000, 5}, {math.MaxInt}, {math.MaxInt, 1}, {1 << 32}, {1<<32 + 5},
		slices.Repeat(key(1), impl.MaxKey+1), zeros(impl.MaxKey, 1), slices.Repeat(key(999), impl.MaxKey+1), slices.Repeat(key(7), 5000),
	}
}

func someKeys() [][]int {
	return [][]int{{1}, {500}, {999}, {0, 1}, {5, 999}, {999, 999}, zeros(impl.MaxKey-1, 1), slices.Repeat(key(999), impl.MaxKey)}
}

func TestBetweenOfNoKeys(t *testing.T) {
	for _, wrong := range noKeys() {
		checkBetween(t, wrong, nil, nil, false)
		checkBetween(t, nil, wrong, nil, false)
		for _, other := range slices.Concat(someKeys(), noKeys()) {
			checkBetween(t, wrong, other, nil, false)
			checkBetween(t, other, wrong, nil, false)
		}
	}
}

func TestBetweenOfManyRows(t *testing.T) {
	rows := rowsOf(3, -1, 0, 1, 2, 3, 500, 997, 998, 999, 1000)
	for _, a := range rows {
		for _, b := range rows {
			checkBetweenAsRead(t, a, b)
		}
	}
}

func TestBetweenOfNearKeys(t *testing.T) {
	rows := slices.DeleteFunc(rowsOf(4, 0, 1, 2, 500, 999), func(row []int) bool { return len(row) > 0 && !mayBeKey(row) })
	for _, a := range rows {
		for _, b := range rows {
			checkBetweenAsRead(t, a, b)
		}
	}
}

func TestBetweenOfLongRows(t *testing.T) {
	r := rand.New(rand.NewPCG(4, 1))
	numbers := []int{0, 0, 0, 1, 2, 500, 998, 999, 999}
	found := 0
	for range 100000 {
		a := make([]int, r.IntN(14))
		for i := range a {
			a[i] = numbers[r.IntN(len(numbers))]
		}
		b := slices.Clone(a[:r.IntN(len(a)+1)])
		for range r.IntN(14) {
			b = append(b, numbers[r.IntN(len(numbers))])
		}
		if checkBetweenAsRead(t, a, b) {
			found++
		}
	}
	if found < 10000 {
		t.Fatalf("only %d pairs have one between them", found)
	}
}

// What Between tells is a key again, so that more may go beside it, at either
// side, until there is no room.
func TestBetweenAgainAndAgain(t *testing.T) {
	for _, side := range []string{"low", "high", "by turns"} {
		var a, b []int
		for i := range 1000 {
			if !checkBetweenAsRead(t, a, b) {
				if i < 50 {
					t.Fatalf("%s: no room behind %d", side, i)
				}
				break
			}
			mid, _ := impl.Between(a, b)
			if side == "low" || side == "by turns" && i%2 == 0 {
				b = mid
			} else {
				a = mid
			}
		}
	}
}

func newElem(at, parent impl.Id, row []int, name string) impl.Op {
	return impl.Op{Kind: impl.OpNew, At: at, Parent: parent, Key: row, Elem: impl.NdElem, Name: []byte(name)}
}

func newText(at, parent impl.Id, row []int, s string) impl.Op {
	return impl.Op{Kind: impl.OpNew, At: at, Parent: parent, Key: row, Elem: impl.NdText, Text: []byte(s)}
}

func move(at, node, parent impl.Id, row []int) impl.Op {
	return impl.Op{Kind: impl.OpMove, At: at, Node: node, Parent: parent, Key: row}
}

func setText(at, node impl.Id, s string) impl.Op {
	return impl.Op{Kind: impl.OpText, At: at, Node: node, Text: []byte(s)}
}

func setAttr(at, node impl.Id, name, s string) impl.Op {
	return impl.Op{Kind: impl.OpAttr, At: at, Node: node, Name: []byte(name), Text: []byte(s)}
}

func noAttr(at, node impl.Id, name string) impl.Op {
	return impl.Op{Kind: impl.OpAttr, At: at, Node: node, Name: []byte(name), Gone: true}
}

// opRows are operations with their bytes, written out by hand.
func opRows() []struct {
	op  impl.Op
	row string
} {
	return []struct {
		op  impl.Op
		row string
	}{
		{newElem(id(1, 0), id(0, 0), key(1), "p"), "\x00\x01\x00\x00\x00\x01\x01\x00\x01p\x00"},
		{newElem(id(5, 2), id(3, 7), key(0, 500, 999), "a1"), "\x00\x05\x02\x03\x07\x03\x00\xf4\x03\xe7\x07\x00\x02a1\x00"},
		{newElem(id(300, 7), id(0, 121), key(128), "br"), "\x00\xac\x02\x07\x00y\x01\x80\x01\x00\x02br\x00"},
		{newText(id(1, 1), id(0, 1), key(1, 1), "x y"), "\x00\x01\x01\x00\x01\x02\x01\x01\x01\x00\x03x y"},
		{newText(id(2, 0), id(1, 0), key(7), ""), "\x00\x02\x00\x01\x00\x01\x07\x01\x00\x00"},
		{move(id(3, 1), id(0, 2), id(0, 0), key(500)), "\x01\x03\x01\x00\x02\x00\x00\x01\xf4\x03"},
		{move(id(impl.MaxClock, 7), id(128, 1), id(127, 0), key(127, 128)), "\x01\xc0\x84\x3d\x07\x80\x01\x01\x7f\x00\x02\x7f\x80\x01"},
		{setText(id(9, 3), id(0, 5), "~ \""), "\x02\x09\x03\x00\x05\x03~ \""},
		{setText(id(9, 3), id(8, 3), ""), "\x02\x09\x03\x08\x03\x00"},
		{setAttr(id(4, 4), id(0, 0), "id", "top"), "\x03\x04\x04\x00\x00\x02id\x00\x03top"},
		{setAttr(id(4, 4), id(2, 6), "z", ""), "\x03\x04\x04\x02\x06\x01z\x00\x00"},
		{noAttr(id(4, 4), id(2, 6), "z"), "\x03\x04\x04\x02\x06\x01z\x01"},
		{noAttr(id(1, 0), id(0, 0), "abcdefgh"), "\x03\x01\x00\x00\x00\x08abcdefgh\x01"},
	}
}

// edgeOps are operations that may be, each with a limit that is met exactly.
func edgeOps() []impl.Op {
	at, long := id(1, 0), strings.Repeat("~", impl.MaxText)
	tops := slices.Repeat(key(impl.KeyTop), impl.MaxKey)
	return []impl.Op{
		newElem(id(impl.MaxClock, impl.MaxReps-1), id(impl.MaxClock, impl.MaxReps-1), tops, "abcdefgh"),
		newElem(at, id(0, impl.MaxParts+1), zeros(impl.MaxKey-1, 1), "hr"),
		newElem(at, at, key(1), "z9"),
		newText(at, id(1, 7), key(impl.KeyTop), long),
		newText(at, id(0, 8), key(0, 0, 1), " "),
		move(at, id(0, impl.MaxParts+1), id(impl.MaxClock, 0), tops),
		move(at, id(0, 0), id(0, 1), key(1)),
		move(at, id(2, 2), id(2, 2), key(1)),
		setText(id(impl.MaxClock, 0), id(impl.MaxClock, impl.MaxReps-1), long),
		setText(at, id(0, impl.MaxParts+1), ""),
		setAttr(id(1, impl.MaxReps-1), id(0, 0), "a", long),
		noAttr(at, id(1, impl.MaxReps-1), "a0000000"),
	}
}

func goodOps() []impl.Op {
	out := edgeOps()
	for _, r := range opRows() {
		out = append(out, r.op)
	}
	return out
}

// mayBeId and mayBeOp are read off the document in another way than the
// program's: by lists of what a kind has, and by shapes.
func mayBeId(x impl.Id) bool {
	if x.N == 0 {
		return x.Rep >= 0 && x.Rep < 122
	}
	return x.N > 0 && x.N <= 1000000 && x.Rep >= 0 && x.Rep < 8
}

func mayBeOp(o impl.Op) bool {
	if o.At.N == 0 || !mayBeId(o.At) || !mayBeId(o.Node) || !mayBeId(o.Parent) || !textShape.Match(o.Text) {
		return false
	}
	has := map[string]bool{"Node": o.Node != impl.Id{}, "Parent": o.Parent != impl.Id{}, "Key": len(o.Key) > 0,
		"Elem": o.Elem != 0, "Name": len(o.Name) > 0, "Text": len(o.Text) > 0, "Gone": o.Gone}
	wants := map[int]string{0: "Key", 1: "Key", 2: "", 3: "Name"}
	takes := map[int]string{0: "Parent", 1: "Node Parent", 2: "Node Text", 3: "Node Text Gone"}
	if o.Kind == 0 && o.Elem == 0 {
		wants[0] += " Name"
	} else if o.Kind == 0 && o.Elem == 1 {
		takes[0] += " Elem Text"
	}
	want, known := wants[o.Kind]
	for field, there := range has {
		wanted, taken := strings.Contains(want, field), strings.Contains(takes[o.Kind], field)
		if wanted && !there || there && !wanted && !taken {
			return false
		}
	}
	return known && !(o.Gone && len(o.Text) > 0) &&
		(len(o.Key) == 0 || mayBeKey(o.Key)) && (len(o.Name) == 0 || nameShape.Match(o.Name))
}

func checkOp(t *testing.T, what string, o impl.Op, want bool) {
	t.Helper()
	if got := impl.OpOk(o); got != want {
		t.Fatalf("%s: OpOk(%+v) is %v", what, o, got)
	}
	if got := impl.OpOk(roomyOf(o)); got != want {
		t.Fatalf("%s, with room behind its lists: OpOk(%+v) is %v", what, o, got)
	}
	b, ok := impl.OpBytes(o)
	if ok != want || !want && len(b) != 0 {
		t.Fatalf("%s: OpBytes(%+v) = % x, %v", what, o, b, ok)
	}
	if want {
		checkOpComesBack(t, o)
	}
}

func checkOpComesBack(t *testing.T, o impl.Op) {
	t.Helper()
	b, ok := impl.OpBytes(o)
	if want := writtenOut(o); !ok || !bytes.Equal(b, want) {
		t.Fatalf("OpBytes(%+v) = % x, %v; want % x", o, b, ok, want)
	}
	back, ok := impl.OpRead(b)
	if !ok || shown(back) != shown(o) {
		t.Fatalf("OpRead(% x) = %+v, %v; want %+v", b, back, ok, o)
	}
}

// writtenOut writes whatever operation in the document's order, if it may be
// or not: numbers below 0 as nothing, greater ones as they come.
func writtenOut(o impl.Op) []byte {
	var out []byte
	num := func(numbers ...int) {
		for _, n := range numbers {
			for ; n >= 128; n /= 128 {
				out = append(out, byte(n%128)|128)
			}
			if n >= 0 {
				out = append(out, byte(n))
			}
		}
	}
	row := func(b []byte) {
		num(len(b))
		out = append(out, b...)
	}
	num(o.Kind, o.At.N, o.At.Rep)
	if o.Kind > 0 {
		num(o.Node.N, o.Node.Rep)
	}
	if o.Kind < 2 {
		num(o.Parent.N, o.Parent.Rep, len(o.Key))
		num(o.Key...)
	}
	if o.Kind == 0 {
		num(o.Elem)
	}
	if o.Kind == 0 || o.Kind == 3 {
		row(o.Name)
	}
	if o.Kind == 3 {
		num(map[bool]int{true: 1}[o.Gone])
	}
	if o.Kind != 1 && !o.Gone {
		row(o.Text)
	}
	return out
}

func TestOpOkOrdinary(t *testing.T) {
	for _, o := range goodOps() {
		if !mayBeOp(o) {
			t.Fatalf("%+v may be", o)
		}
		checkOp(t, "ordinary", o, true)
	}
	checkOp(t, "the zero value", impl.Op{}, false)
}

// changes are ways in which an operation may become another one.
type change struct {
	what string
	do   func(*impl.Op)
}

func edgeNumbers() []int {
	return []int{math.MinInt, -1, 0, 1, 2, 6, 7, 8, 9, 119, 120, 121, 122, 123, 128, 999999, 1000000, 1000001, impl.MaxNum, impl.MaxNum + 1, 1 << 32, 1<<32 + 1, math.MaxInt}
}

func edgeIds() []impl.Id {
	var out []impl.Id
	for _, n := range edgeNumbers() {
		out = append(out, id(n, 0), id(n, 7), id(n, 8), id(1, n), id(0, n), id(1000000, n))
	}
	return out
}

// edgeChanges sets one field each, to all that lies at an edge.
func edgeChanges() []change {
	var out []change
	for _, n := range edgeNumbers() {
		out = append(out, change{fmt.Sprint("Kind ", n), func(o *impl.Op) { o.Kind = n }},
			change{fmt.Sprint("Elem ", n), func(o *impl.Op) { o.Elem = n }})
	}
	out = append(out, change{"Kind 3", func(o *impl.Op) { o.Kind = 3 }}, change{"Kind 4", func(o *impl.Op) { o.Kind = 4 }})
	for _, x := range edgeIds() {
		out = append(out, change{fmt.Sprint("At ", x), func(o *impl.Op) { o.At = x }},
			change{fmt.Sprint("Node ", x), func(o *impl.Op) { o.Node = x }},
			change{fmt.Sprint("Parent ", x), func(o *impl.Op) { o.Parent = x }})
	}
	for _, row := range slices.Concat(noKeys(), someKeys(), [][]int{nil, {}}) {
		out = append(out, change{fmt.Sprint("Key ", row), func(o *impl.Op) { o.Key = row }})
	}
	for _, name := range []string{"", "a", "z", "a9", "br", "abcdefgh", "abcdefghi", "A", "1a", "a-b", "a ", "\xff", strings.Repeat("a", 31), strings.Repeat("a", 200)} {
		out = append(out, change{fmt.Sprintf("Name %q", name), func(o *impl.Op) { o.Name = []byte(name) }})
	}
	for _, s := range []string{"", "x", " ", "~", "a b", strings.Repeat("x", 30), strings.Repeat("x", 31), "\x1f", "\x7f", "a\n", "\xff", strings.Repeat("x", 200)} {
		out = append(out, change{fmt.Sprintf("Text %q", s), func(o *impl.Op) { o.Text = []byte(s) }})
	}
	return append(out, change{"Gone", func(o *impl.Op) { o.Gone = true }}, change{"not Gone", func(o *impl.Op) { o.Gone = false }})
}

func TestOpOkOneFieldChanged(t *testing.T) {
	may, mayNot := 0, 0
	for _, good := range goodOps() {
		for _, c := range edgeChanges() {
			o := good
			c.do(&o)
			want := mayBeOp(o)
			checkOp(t, c.what, o, want)
			if want {
				may++
			} else {
				mayNot++
			}
		}
	}
	if may < 500 || mayNot < 5000 {
		t.Fatalf("%d may be, %d may not", may, mayNot)
	}
}

func TestOpOkTwoFieldsChanged(t *testing.T) {
	r := rand.New(rand.NewPCG(4, 2))
	goods, changes := goodOps(), edgeChanges()
	for range 200000 {
		o := goods[r.IntN(len(goods))]
		a, b := changes[r.IntN(len(changes))], changes[r.IntN(len(changes))]
		a.do(&o)
		b.do(&o)
		if got := impl.OpOk(o); got != mayBeOp(o) {
			t.Fatalf("%s, %s: OpOk(%+v) is %v", a.what, b.what, o, got)
		}
	}
}

// The same edges by hand, so that they don't hang on mayBeOp alone.
func TestOpOkEdges(t *testing.T) {
	at := id(1, 0)
	elemOp, textOp := newElem(at, id(0, 0), key(1), "p"), newText(at, id(0, 0), key(1), "x")
	moveOp, setOp := move(at, id(0, 2), id(0, 0), key(1)), setText(at, id(0, 2), "x")
	attrOp, goneOp := setAttr(at, id(0, 0), "a", "x"), noAttr(at, id(0, 0), "a")
	all := []impl.Op{elemOp, textOp, moveOp, setOp, attrOp, goneOp}
	check := func(what string, want bool, do func(*impl.Op), ops ...impl.Op) {
		t.Helper()
		for _, o := range ops {
			do(&o)
			checkOp(t, what, o, want)
		}
	}
	for x, want := range map[impl.Id]bool{id(0, 0): false, id(1, 0): true, id(1000000, 7): true, id(1000001, 0): false, id(-1, 0): false, id(1, -1): false, id(1, 8): false} {
		check("At", want, func(o *impl.Op) { o.At = x }, all...)
	}
	for x, want := range map[impl.Id]bool{id(0, 0): true, id(0, 121): true, id(0, 122): false, id(0, -1): false, id(1, 7): true, id(1, 8): false,
		id(1, -1): false, id(1000000, 7): true, id(1000000, 8): false, id(1000001, 0): false, id(-1, 0): false} {
		check("Node", want, func(o *impl.Op) { o.Node = x }, moveOp, setOp, attrOp, goneOp)
		check("Parent", want, func(o *impl.Op) { o.Parent = x }, elemOp, textOp, moveOp)
	}
	check("Kind", false, func(o *impl.Op) { o.Kind = -1 }, all...)
	check("Kind", false, func(o *impl.Op) { o.Kind = 4 }, all...)
	check("another Kind", false, func(o *impl.Op) { o.Kind = (o.Kind + 1) % 4 }, all...)
	check("no Key", false, func(o *impl.Op) { o.Key = nil }, elemOp, textOp, moveOp)
	for _, row := range noKeys() {
		check("no key", false, func(o *impl.Op) { o.Key = row }, all...)
	}
	for _, row := range someKeys() {
		check("a key", true, func(o *impl.Op) { o.Key = row }, elemOp, textOp, moveOp)
		check("a key where none may be", false, func(o *impl.Op) { o.Key = row }, setOp, attrOp, goneOp)
	}
	for _, n := range []int{-1, 2, math.MinInt, math.MaxInt} {
		check("Elem", false, func(o *impl.Op) { o.Elem = n }, all...)
	}
	check("Elem with no Text", false, func(o *impl.Op) { o.Elem = 1 }, elemOp, moveOp, setOp, attrOp, goneOp)
	check("Elem with no name", false, func(o *impl.Op) { o.Elem = 0 }, textOp)
	check("no Name", false, func(o *impl.Op) { o.Name = nil }, elemOp, attrOp, goneOp)
	check("Name", false, func(o *impl.Op) { o.Name = []byte("b") }, textOp, moveOp, setOp)
	check("Text", false, func(o *impl.Op) { o.Text = []byte("b") }, elemOp, moveOp, goneOp)
	check("no Text", true, func(o *impl.Op) { o.Text = nil }, all...)
	check("Gone", false, func(o *impl.Op) { o.Gone = true }, elemOp, textOp, moveOp, setOp, attrOp)
	check("not Gone", true, func(o *impl.Op) { o.Gone = false }, all...)
	check("Gone and Text", true, func(o *impl.Op) { o.Gone, o.Text = true, nil }, attrOp)
	check("Node of OpNew", false, func(o *impl.Op) { o.Node = id(0, 1) }, elemOp, textOp)
	check("Node of OpNew", false, func(o *impl.Op) { o.Node = id(1, 0) }, elemOp, textOp)
	check("Parent", false, func(o *impl.Op) { o.Parent = id(0, 1) }, setOp, attrOp, goneOp)
	check("Parent", false, func(o *impl.Op) { o.Parent = id(1, 0) }, setOp, attrOp, goneOp)
}

func TestOpBytesRows(t *testing.T) {
	for _, r := range opRows() {
		b, ok := impl.OpBytes(r.op)
		if !ok || string(b) != r.row {
			t.Fatalf("OpBytes(%+v) = %q, %v; want %q", r.op, b, ok, r.row)
		}
		o, ok := impl.OpRead([]byte(r.row))
		if !ok || shown(o) != shown(r.op) {
			t.Fatalf("OpRead(%q) = %+v, %v; want %+v", r.row, o, ok, r.op)
		}
	}
}

func checkNoOp(t *testing.T, what string, b []byte) {
	t.Helper()
	if o, ok := impl.OpRead(b); ok || shown(o) != shown(impl.Op{}) {
		t.Fatalf("%s: OpRead(% x) = %+v, %v; want nothing", what, b, o, ok)
	}
}

// readOpAs is read off the document in another way than the program's: by
// cutting off the numbers and texts that the kind has, one by one.
func readOpAs(b []byte) (o impl.Op, ok bool) {
	whole := b
	num := func() int {
		n, next := numberAt(b, 0)
		if next < 0 {
			b, ok = nil, false
			return 0
		}
		b = b[next:]
		return n
	}
	row := func() []byte {
		size := num()
		if size > 30 || size > len(b) {
			b, ok = nil, false
			return nil
		}
		out := b[:size]
		b = b[size:]
		return out
	}
	ok = true
	o.Kind, o.At.N, o.At.Rep = num(), num(), num()
	if o.Kind > 0 {
		o.Node.N, o.Node.Rep = num(), num()
	}
	if o.Kind < 2 {
		o.Parent.N, o.Parent.Rep = num(), num()
		for size := num(); ok && len(o.Key) < size && size <= 12; {
			o.Key = append(o.Key, num())
		}
	}
	if o.Kind == 0 {
		o.Elem = num()
	}
	if o.Kind == 0 || o.Kind == 3 {
		o.Name = row()
	}
	if o.Kind == 3 {
		o.Gone = num() == 1
	}
	if o.Kind != 1 && !o.Gone {
		o.Text = row()
	}
	if !ok || len(b) > 0 || !mayBeOp(o) || !bytes.Equal(writtenOut(o), whole) {
		return impl.Op{}, false
	}
	return o, true
}

// checkOpAsRead holds OpRead against readOpAs, and against what the promise
// says of what is read.
func checkOpAsRead(t *testing.T, b []byte) bool {
	t.Helper()
	want, wantOk := readOpAs(b)
	got, ok := impl.OpRead(b)
	if ok != wantOk || shown(got) != shown(want) {
		t.Fatalf("OpRead(% x) = %+v, %v; want %+v, %v", b, got, ok, want, wantOk)
	}
	if !ok {
		return false
	}
	own, may := impl.OpBytes(got)
	if !may || !impl.OpOk(got) || !bytes.Equal(own, b) {
		t.Fatalf("OpRead(% x) = %+v, whose bytes are % x, %v", b, got, own, may)
	}
	return true
}

func TestOpReadCutAndLengthened(t *testing.T) {
	checkNoOp(t, "no bytes", nil)
	checkNoOp(t, "no bytes", []byte{})
	for _, o := range goodOps() {
		whole := writtenOut(o)
		for end := range whole {
			checkNoOp(t, "the end is missing", whole[:end])
		}
		for from := 1; from < len(whole); from++ {
			checkOpAsRead(t, whole[from:])
		}
		for x := range 256 {
			checkNoOp(t, "one byte more", append(slices.Clone(whole), byte(x)))
		}
		checkNoOp(t, "twice", append(slices.Clone(whole), whole...))
		checkNoOp(t, "very many more", append(slices.Clone(whole), make([]byte, 100000)...))
	}
}

func TestOpReadOneByteChanged(t *testing.T) {
	read := 0
	for _, o := range goodOps() {
		whole := writtenOut(o)
		for at := range whole {
			for x := range 256 {
				b := slices.Clone(whole)
				b[at] = byte(x)
				if checkOpAsRead(t, b) {
					read++
				}
			}
			checkOpAsRead(t, slices.Delete(slices.Clone(whole), at, at+1))
			for _, x := range []byte{0, 1, 2, 12, 13, 30, 31, 127, 128, 255} {
				checkOpAsRead(t, slices.Insert(slices.Clone(whole), at, x))
			}
		}
	}
	if read < 1000 {
		t.Fatalf("only %d were read", read)
	}
}

// Each byte below 128 ends a number or is one of a text: with 128 added and a 0
// behind it the number has a row of bytes too many.
func TestOpReadNumbersInOneWayAlone(t *testing.T) {
	for _, o := range goodOps() {
		whole := writtenOut(o)
		for at, x := range whole {
			if x < 128 {
				for _, more := range []string{"\x00", "\x80\x00", "\x80\x80\x00", "\x80\x80\x80\x80\x00"} {
					b := joined(whole[:at], []byte{x | 128}, []byte(more), whole[at+1:])
					checkNoOp(t, "a number with a 0 behind it", b)
				}
			}
		}
	}
}

func TestOpReadOfWhatMayNotBe(t *testing.T) {
	for _, good := range goodOps() {
		for _, c := range edgeChanges() {
			o := good
			c.do(&o)
			checkOpAsRead(t, writtenOut(o))
		}
	}
	for what, row := range map[string]string{
		"a kind that is none":        "\x04\x01\x00\x00\x00\x00",
		"a great kind":               "\xff\xff\xff\xff\x07\x01\x00\x00\x00\x00",
		"a stamp with N 0":           "\x02\x00\x00\x00\x00\x00",
		"a stamp's Rep of MaxReps":   "\x02\x01\x08\x00\x00\x00",
		"a stamp above MaxClock":     "\x02\xc1\x84\x3d\x00\x00\x00\x00",
		"an id above MaxParts + 1":   "\x02\x01\x00\x00\x7a\x00",
		"an id's Rep of MaxReps":     "\x02\x01\x00\x01\x08\x00",
		"a key of nothing":           "\x01\x01\x00\x00\x00\x00\x00\x00",
		"a key that ends in 0":       "\x01\x01\x00\x00\x00\x00\x00\x02\x01\x00",
		"a key of 0":                 "\x01\x01\x00\x00\x00\x00\x00\x01\x00",
		"a key's number of 1000":     "\x01\x01\x00\x00\x00\x00\x00\x01\xe8\x07",
		"a key of MaxKey + 1":        "\x01\x01\x00\x00\x00\x00\x00\x0d" + strings.Repeat("\x01", 13),
		"a key told too long by one": "\x01\x01\x00\x00\x00\x00\x00\x0d" + strings.Repeat("\x01", 12),
		"a key told too long":        "\x01\x01\x00\x00\x00\x00\x00\xff\xff\xff\xff\x07" + strings.Repeat("\x01", 12),
		"an Elem of 2":               "\x00\x01\x00\x00\x00\x01\x01\x02\x00\x00",
		"an element with no name":    "\x00\x01\x00\x00\x00\x01\x01\x00\x00\x00",
		"an element with Text":       "\x00\x01\x00\x00\x00\x01\x01\x00\x01p\x01x",
		"a text with a name":         "\x00\x01\x00\x00\x00\x01\x01\x01\x01p\x01x",
		"a name with a great letter": "\x00\x01\x00\x00\x00\x01\x01\x00\x01P\x00",
		"a name of nine bytes":       "\x03\x01\x00\x00\x00\x09abcdefghi\x01",
		"no name of an attribute":    "\x03\x01\x00\x00\x00\x00\x01",
		"a text of 31 bytes":         "\x02\x01\x00\x00\x00\x1f" + strings.Repeat("x", 31),
		"a byte that may not stand":  "\x02\x01\x00\x00\x00\x01\x1f",
		"one above those that may":   "\x02\x01\x00\x00\x00\x01\x7f",
		"Gone and a text":            "\x03\x01\x00\x00\x00\x01a\x01\x01x",
		"Gone and an empty text":     "\x03\x01\x00\x00\x00\x01a\x01\x00",
		"neither Gone nor a text":    "\x03\x01\x00\x00\x00\x01a\x00",
		"Gone told as 2":             "\x03\x01\x00\x00\x00\x01a\x02",
		"Gone told as 2 and a text":  "\x03\x01\x00\x00\x00\x01a\x02\x01x",
		"Gone told in two bytes":     "\x03\x01\x00\x00\x00\x01a\x81\x00",
	} {
		checkNoOp(t, what, []byte(row))
	}
}

// drawnOp is an operation that may be, or nearly.
func drawnOp(r *rand.Rand) impl.Op {
	some := func() impl.Id {
		return []impl.Id{id(0, r.IntN(122)), id(1+r.IntN(1000000), r.IntN(8)), id(r.IntN(4), r.IntN(3))}[r.IntN(3)]
	}
	o := impl.Op{Kind: r.IntN(4), At: id(1+r.IntN(1000000), r.IntN(8)), Node: some()}
	word := []byte(strings.Repeat([]string{"a", "z9", "q"}[r.IntN(3)], 1+r.IntN(4)))
	row := make([]byte, []int{0, 1, 5, 30}[r.IntN(4)])
	for i := range row {
		row[i] = byte(32 + r.IntN(95))
	}
	switch o.Kind {
	case impl.OpNew, impl.OpMove:
		o.Parent = some()
		for range r.IntN(impl.MaxKey) {
			o.Key = append(o.Key, r.IntN(1000))
		}
		o.Key = append(o.Key, 1+r.IntN(999))
	case impl.OpAttr:
		o.Name, o.Gone = word, r.IntN(3) == 0
	}
	if o.Kind == impl.OpNew {
		o.Node, o.Elem = impl.Id{}, r.IntN(2)
		if o.Elem == impl.NdElem {
			o.Name = word
		}
	}
	if o.Kind != impl.OpMove && !o.Gone && len(o.Name) == 0 || o.Kind == impl.OpAttr && !o.Gone {
		o.Text = row
	}
	return o
}

func TestOpsComeBack(t *testing.T) {
	r := rand.New(rand.NewPCG(4, 3))
	seen := map[string]string{}
	for range 50000 {
		o := drawnOp(r)
		if !mayBeOp(o) {
			t.Fatalf("%+v was to be one that may be", o)
		}
		checkOpComesBack(t, o)
		b, _ := impl.OpBytes(o)
		if other, there := seen[string(b)]; there && other != shown(o) {
			t.Fatalf("% x are the bytes of two: %s and %s", b, other, shown(o))
		}
		seen[string(b)] = shown(o)
	}
}

func TestOpReadOfManyBytes(t *testing.T) {
	r := rand.New(rand.NewPCG(4, 4))
	read := 0
	for range 200000 {
		b := writtenOut(drawnOp(r))
		for range r.IntN(4) {
			at := r.IntN(len(b) + 1)
			switch r.IntN(4) {
			case 0:
				b = slices.Insert(b, at, byte(r.IntN(256)))
			case 1:
				b = slices.Delete(b, max(at-1, 0), max(at, 1))
			case 2:
				b[max(at-1, 0)] ^= 1 << r.IntN(8)
			case 3:
				b = b[:max(at, 1)]
			}
			if len(b) == 0 {
				b = []byte{0}
			}
		}
		if checkOpAsRead(t, b) {
			read++
		}
	}
	if read < 20000 || read > 180000 {
		t.Fatalf("%d were read", read)
	}
}

func TestOpReadOfFewBytes(t *testing.T) {
	read := 0
	few := []byte{0, 1, 2, 3, 'a'}
	for size := range 9 {
		count := 1
		for range size {
			count *= len(few)
		}
		b := make([]byte, size)
		for i := range count {
			for k := range b {
				b[k] = few[i%len(few)]
				i /= len(few)
			}
			if checkOpAsRead(t, b) {
				read++
			}
		}
	}
	if read < 100 {
		t.Fatalf("only %d were read", read)
	}
}

func TestOpsLeaveArgumentsAlone(t *testing.T) {
	var ops []impl.Op
	for _, good := range goodOps() {
		ops = append(ops, good)
		for _, c := range edgeChanges() {
			o := good
			c.do(&o)
			ops = append(ops, o)
		}
	}
	for _, o := range ops {
		arg := roomyOf(o)
		before := shown(wholeOf(arg))
		impl.OpOk(arg)
		b, _ := impl.OpBytes(arg)
		checkNewMemory(t, b, arg)
		spoil(b)
		if shown(wholeOf(arg)) != before {
			t.Fatalf("the argument %+v was written into", o)
		}
		row := roomy(writtenOut(o))
		got, _ := impl.OpRead(row)
		checkNewMemory(t, got, row)
		spoilOp(&got)
		checkUntouched(t, row, writtenOut(o))
	}
}

// spoilOp overwrites all memory that the operation can reach.
func spoilOp(o *impl.Op) {
	spoil(o.Name)
	spoil(o.Text)
	spoilRow(o.Key)
}

func spoilRow(row []int) {
	row = row[:cap(row)]
	for i := range row {
		row[i] = ^row[i]
	}
}

func TestKeysLeaveArgumentsAlone(t *testing.T) {
	rows := slices.Concat(someKeys(), noKeys(), [][]int{nil, {}, {5}, {5, 1}, {6}})
	for _, a := range rows {
		for _, b := range rows {
			argA, argB := roomyOf(a), roomyOf(b)
			before := shown(wholeOf(argA)) + shown(wholeOf(argB))
			if impl.KeyLess(argA, argB) != impl.KeyLess(a, b) {
				t.Fatalf("KeyLess(%v, %v) hangs on what lies behind", a, b)
			}
			want, wantOk := betweenOf(a, b)
			got, ok := impl.Between(argA, argB)
			if ok != wantOk || !slices.Equal(got, want) {
				t.Fatalf("Between(%v, %v) = %v, %v; want %v, %v", a, b, got, ok, want, wantOk)
			}
			checkNewMemory(t, got, argA, argB)
			spoilRow(got)
			if shown(wholeOf(argA))+shown(wholeOf(argB)) != before {
				t.Fatalf("Between(%v, %v): an argument was written into", a, b)
			}
		}
	}
}

// Two arguments may lie in one memory, the one in the room behind the other.
func TestOpsOfSharedMemory(t *testing.T) {
	all := key(5, 1, 7, 3)
	checkBetween(t, all[:1], all[:2], key(5, 0, 500), true)
	checkBetween(t, all[1:2], all[2:3], key(4), true)
	checkBetween(t, all[:3], all[:3], nil, false)
	if !slices.Equal(all, key(5, 1, 7, 3)) {
		t.Fatal(all)
	}
	row := []byte("abcd")
	o := setAttr(id(1, 0), id(0, 0), "", "")
	o.Name, o.Text = row[:2], row[1:]
	checkOp(t, "a name and a text in one memory", o, true)
	if string(row) != "abcd" {
		t.Fatalf("%q", row)
	}
}

func TestOpsDoNotReadBehindTheLength(t *testing.T) {
	numbers := key(7, 2, 0, 9)
	checkBetween(t, nil, numbers[:1], key(3), true)
	checkBetween(t, numbers[:1], nil, key(503), true)
	checkBetween(t, numbers[:0], numbers[:0], key(500), true)
	if impl.KeyLess(numbers[:2], numbers[:2]) || !impl.KeyLess(numbers[:1], numbers[:2]) {
		t.Fatal("KeyLess reads behind the length")
	}
	for _, r := range opRows() {
		all := []byte(r.row + "\x00")
		if o, ok := impl.OpRead(all[:len(r.row)]); !ok || shown(o) != shown(r.op) {
			t.Fatalf("OpRead(%q) = %+v, %v, with a 0 behind the length", r.row, o, ok)
		}
		checkNoOp(t, "its last byte behind the length", all[:len(r.row)-1])
	}
}

// withEmptyLists has an empty list wherever there is nil.
func withEmptyLists(o impl.Op) impl.Op {
	for _, list := range []*[]byte{&o.Name, &o.Text} {
		if len(*list) == 0 {
			*list = []byte{}
		}
	}
	if len(o.Key) == 0 {
		o.Key = []int{}
	}
	return o
}

func TestOpsOfEmptyLists(t *testing.T) {
	for _, good := range goodOps() {
		o := withEmptyLists(good)
		checkOp(t, "empty lists in place of nil", o, true)
		b, _ := impl.OpBytes(o)
		want, _ := impl.OpBytes(good)
		checkShown(t, "OpBytes", b, want)
	}
	for _, empty := range [][]int{nil, {}} {
		checkBetween(t, empty, key(3), key(1), true)
		checkBetween(t, key(3), empty, key(501), true)
		checkBetween(t, empty, []int{}, key(500), true)
	}
}

func TestOpsEndAtWhateverIsGiven(t *testing.T) {
	long, many := make([]int, 1<<20), bytes.Repeat([]byte("a"), 1<<20)
	checkBetween(t, long, nil, nil, false)
	checkBetween(t, nil, long, nil, false)
	checkBetween(t, key(1), long, nil, false)
	if impl.KeyLess(long, long) || !impl.KeyLess(long[1:], long) {
		t.Fatal("KeyLess of long rows")
	}
	for _, good := range goodOps() {
		for _, do := range []func(*impl.Op){func(o *impl.Op) { o.Key = long }, func(o *impl.Op) { o.Name = many }, func(o *impl.Op) { o.Text = many }} {
			o := good
			do(&o)
			checkOp(t, "a list that is far too long", o, false)
		}
	}
	for _, x := range []byte{0, 1, 2, 3, 128, 255} {
		checkNoOp(t, "very many bytes", bytes.Repeat([]byte{x}, 1<<20))
	}
	for _, kind := range []string{"\x00\x01\x00\x00\x00", "\x01\x01\x00\x00\x00\x00\x00"} {
		checkNoOp(t, "a key of MaxNum numbers", joined([]byte(kind+"\xff\xff\xff\xff\x07"), make([]byte, 1<<20)))
	}
}

func TestOpsCallsKeepNothing(t *testing.T) {
	for range 3 {
		for _, r := range opRows() {
			b, _ := impl.OpBytes(r.op)
			spoil(b)
			o, _ := impl.OpRead([]byte(r.row))
			spoilOp(&o)
			checkOp(t, "after its answers were spoilt", r.op, true)
		}
		mid, _ := impl.Between(key(7), key(8))
		spoilRow(mid)
		checkBetween(t, key(7), key(8), key(7, 500), true)
	}
}
