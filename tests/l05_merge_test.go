package tests

import (
	"bytes"
	"fmt"
	"maps"
	"math/rand/v2"
	"slices"
	"strings"
	"testing"

	"loop.example/g00353/impl"
)

var rootId, trashId = id(0, 0), id(0, 1)

func TestMergeConstants(t *testing.T) {
	if impl.MaxOps != 150 {
		t.Fatal("a limit is not as the document has it")
	}
}

// rowOfOps are that many operations that may be, of all kinds by turns, their
// stamps ascending with room between them.
func rowOfOps(count int) []impl.Op {
	var out []impl.Op
	for i := range count {
		out = append(out, opOfKind(i, id(2*(i/4)+2, 2*(i%4)+1)))
	}
	return out
}

func opOfKind(kind int, at impl.Id) impl.Op {
	switch kind % 6 {
	case 0:
		return newElem(at, rootId, key(5), "p")
	case 1:
		return newText(at, rootId, key(6, 1), "x")
	case 2:
		return move(at, id(0, 2), rootId, key(7))
	case 3:
		return setText(at, id(0, 3), "y")
	case 4:
		return setAttr(at, id(0, 2), "a", "v")
	}
	return noAttr(at, id(0, 2), "a")
}

// wrongOps are operations with this stamp that may not be.
func wrongOps(at impl.Id) []impl.Op {
	o := move(at, id(0, 2), rootId, key(1))
	noKey, zeroKey, node, kind, name := o, o, o, o, o
	noKey.Key, zeroKey.Key, node.Node, kind.Kind, name.Name = nil, key(1, 0), id(0, 122), 4, []byte("p")
	return []impl.Op{noKey, zeroKey, node, kind, name, {At: at}, setText(at, id(1, 8), ""), newElem(at, rootId, key(1), "P")}
}

func checkOps(t *testing.T, what string, l []impl.Op, want bool) {
	t.Helper()
	if got := impl.OpsOk(l); got != want {
		t.Fatalf("%s: OpsOk(%+v) is %v", what, l, got)
	}
	if got := impl.OpsOk(roomyOf(l)); got != want {
		t.Fatalf("%s, with room behind the lists: OpsOk(%+v) is %v", what, l, got)
	}
	if got := mayBeOps(l); got != want {
		t.Fatalf("%s: mayBeOps(%+v) is %v", what, l, got)
	}
}

// mayBeOps is read off the document in another way than the program's: the
// stamps as texts are the same, sorted and made single.
func mayBeOps(l []impl.Op) bool {
	var stamps []string
	for _, o := range l {
		if !mayBeOp(o) {
			return false
		}
		stamps = append(stamps, stampOf(o))
	}
	return len(l) <= 150 && slices.Equal(slices.Compact(slices.Sorted(slices.Values(stamps))), stamps)
}

func stampOf(o impl.Op) string { return spelt(key(o.At.N, o.At.Rep)) }

func TestOpsOkSizes(t *testing.T) {
	checkOps(t, "nil", nil, true)
	checkOps(t, "none", []impl.Op{}, true)
	for _, count := range []int{1, 2, 3, 75, impl.MaxOps - 1, impl.MaxOps} {
		checkOps(t, "that many", rowOfOps(count), true)
	}
	for _, count := range []int{impl.MaxOps + 1, impl.MaxOps + 2, 500} {
		checkOps(t, "too many", rowOfOps(count), false)
	}
	for _, o := range goodOps() {
		checkOps(t, "one alone", []impl.Op{o}, true)
	}
}

func TestOpsOkOfOneThatMayNotBe(t *testing.T) {
	for _, count := range []int{1, 2, 3, 20, impl.MaxOps} {
		for at := range count {
			l := rowOfOps(count)
			for _, wrong := range wrongOps(l[at].At) {
				l[at] = wrong
				checkOps(t, fmt.Sprint("at ", at, " of ", count), l, false)
			}
		}
	}
	checkOps(t, "the zero value", make([]impl.Op, 1), false)
	checkOps(t, "a stamp with N 0", []impl.Op{opOfKind(0, id(0, 0)), opOfKind(0, id(0, 1))}, false)
}

func TestOpsOkOrder(t *testing.T) {
	for _, r := range []struct {
		a, b impl.Id
		want bool
	}{
		{id(1, 0), id(2, 0), true},
		{id(2, 0), id(1, 0), false},
		{id(1, 0), id(1, 1), true},
		{id(1, 1), id(1, 0), false},
		{id(1, 7), id(2, 0), true},
		{id(2, 0), id(1, 7), false},
		{id(1, 0), id(2, 7), true},
		{id(3, 3), id(3, 3), false},
		{id(9, 0), id(10, 0), true},
		{id(1, 0), id(impl.MaxClock, 7), true},
		{id(impl.MaxClock, 7), id(1, 0), false},
		{id(impl.MaxClock, 7), id(impl.MaxClock, 7), false},
	} {
		for kind := range 6 {
			l := []impl.Op{opOfKind(kind, r.a), opOfKind(kind+1, r.b)}
			checkOps(t, "two", l, r.want)
			l = []impl.Op{opOfKind(kind, r.a), opOfKind(kind, r.b)}
			checkOps(t, "two of one kind", l, r.want)
		}
	}
	for at := range impl.MaxOps - 1 {
		l := rowOfOps(impl.MaxOps)
		l[at], l[at+1] = l[at+1], l[at]
		checkOps(t, fmt.Sprint("turned round at ", at), l, false)
		l = rowOfOps(impl.MaxOps)
		l[at].At = l[at+1].At
		checkOps(t, fmt.Sprint("one stamp twice at ", at), l, false)
	}
	l := rowOfOps(10)
	checkOps(t, "one stamp at both ends", append(l, l[0]), false)
}

// putAs is read off the document in another way than the program's: by stamps
// and bytes as texts, all of it sorted at the end.
func putAs(l []impl.Op, o impl.Op) ([]impl.Op, bool) {
	if !mayBeOps(l) || !mayBeOp(o) {
		return nil, false
	}
	all := map[string]impl.Op{}
	for _, x := range l {
		all[stampOf(x)] = x
	}
	old, there := all[stampOf(o)]
	if !there && len(l) == 150 {
		return l, false
	}
	if !there || string(writtenOut(o)) < string(writtenOut(old)) {
		all[stampOf(o)] = o
	}
	var out []impl.Op
	for _, stamp := range slices.Sorted(maps.Keys(all)) {
		out = append(out, all[stamp])
	}
	return out, true
}

func checkPut(t *testing.T, what string, l []impl.Op, o impl.Op, want []impl.Op, wantOk bool) {
	t.Helper()
	for _, roomyToo := range []bool{false, true} {
		list, op := l, o
		if roomyToo {
			list, op = roomyOf(l), roomyOf(o)
		}
		got, ok := impl.Put(list, op)
		if ok != wantOk || shown(got) != shown(want) {
			t.Fatalf("%s: Put(%+v, %+v) = %+v, %v; want %+v, %v", what, l, o, got, ok, want, wantOk)
		}
		if ok && !impl.OpsOk(got) {
			t.Fatalf("%s: Put(%+v, %+v) = %+v, which is not OpsOk", what, l, o, got)
		}
		checkNewMemory(t, got, list, op)
	}
	asRead, readOk := putAs(l, o)
	if readOk != wantOk || shown(asRead) != shown(want) {
		t.Fatalf("%s: %+v and %+v are read as %+v, %v; want %+v, %v", what, l, o, asRead, readOk, want, wantOk)
	}
}

func TestPutIntoNone(t *testing.T) {
	for _, o := range goodOps() {
		checkPut(t, "into nil", nil, o, []impl.Op{o}, true)
		checkPut(t, "into none", []impl.Op{}, o, []impl.Op{o}, true)
	}
}

func TestPutWhereItBelongs(t *testing.T) {
	for _, count := range []int{1, 2, 3, 40, impl.MaxOps - 1} {
		l := rowOfOps(count)
		for at, next := range l {
			o := opOfKind(at, id(next.At.N, next.At.Rep-1))
			checkPut(t, "ahead of one by Rep", l, o, slices.Insert(slices.Clone(l), at, o), true)
			o = opOfKind(at, id(next.At.N-1, 7))
			checkPut(t, "ahead of one by N", l, o, slices.Insert(slices.Clone(l), at-at%4, o), true)
		}
		o := setText(id(impl.MaxClock, 0), id(0, 2), "")
		checkPut(t, "at the end", l, o, append(slices.Clone(l), o), true)
		o.At = id(1, 0)
		checkPut(t, "at the beginning", l, o, append([]impl.Op{o}, l...), true)
	}
	a, b, c := opOfKind(0, id(2, 7)), opOfKind(1, id(3, 0)), opOfKind(2, id(10, 4))
	checkPut(t, "first", []impl.Op{b, c}, a, []impl.Op{a, b, c}, true)
	checkPut(t, "between", []impl.Op{a, c}, b, []impl.Op{a, b, c}, true)
	checkPut(t, "last", []impl.Op{a, b}, c, []impl.Op{a, b, c}, true)
}

func TestPutOfWhatMayNotBe(t *testing.T) {
	good := opOfKind(0, id(3, 3))
	for _, count := range []int{0, 1, 2, 20, impl.MaxOps} {
		l := rowOfOps(count)
		stamps := []impl.Id{id(1, 0), id(3, 3), id(impl.MaxClock, 7)}
		for _, o := range l {
			stamps = append(stamps, o.At)
		}
		for _, at := range stamps {
			for _, wrong := range wrongOps(at) {
				checkPut(t, "an operation that may not be", l, wrong, nil, false)
			}
		}
		checkPut(t, "the zero value", l, impl.Op{}, nil, false)
		for at := range l {
			spoilt := slices.Clone(l)
			spoilt[at] = wrongOps(l[at].At)[at%8]
			checkPut(t, "one of them may not be", spoilt, good, nil, false)
			checkPut(t, "one of them may not be, with its stamp", spoilt, opOfKind(at, l[at].At), nil, false)
		}
	}
	a, b := opOfKind(0, id(2, 0)), opOfKind(1, id(5, 0))
	checkPut(t, "in the wrong order", []impl.Op{b, a}, good, nil, false)
	checkPut(t, "in the wrong order, there", []impl.Op{b, a}, a, nil, false)
	checkPut(t, "one stamp twice", []impl.Op{a, a}, good, nil, false)
	checkPut(t, "one stamp twice, there", []impl.Op{a, a}, a, nil, false)
	checkPut(t, "too many", rowOfOps(impl.MaxOps+1), good, nil, false)
	checkPut(t, "too many, there", rowOfOps(impl.MaxOps+1), rowOfOps(1)[0], nil, false)
	checkPut(t, "neither", []impl.Op{a, a}, impl.Op{}, nil, false)
}

// rivals are operations with one stamp, in the order of their bytes.
func rivals(at impl.Id) []impl.Op {
	return []impl.Op{
		newElem(at, id(0, 0), key(1), "a"),
		newElem(at, id(0, 0), key(1), "b"),
		newElem(at, id(0, 0), key(1), "ab"),
		newText(at, id(0, 0), key(1), ""),
		newText(at, id(0, 0), key(1), "z"),
		newText(at, id(0, 0), key(1), "aa"),
		newElem(at, id(0, 0), key(2), "a"),
		newElem(at, id(0, 0), key(256), "a"),
		newElem(at, id(0, 0), key(129), "a"),
		newElem(at, id(0, 0), key(1, 1), "a"),
		newElem(at, id(0, 1), key(1), "a"),
		newElem(at, id(1, 0), key(1), "a"),
		move(at, id(0, 0), id(0, 0), key(1)),
		move(at, id(0, 0), id(0, 0), key(1, 1)),
		move(at, id(0, 0), id(0, 1), key(1)),
		move(at, id(0, 2), id(0, 0), key(1)),
		setText(at, id(0, 2), ""),
		setText(at, id(0, 2), " "),
		setText(at, id(0, 2), "ha"),
		setText(at, id(0, 2), "ho"),
		setText(at, id(0, 2), "haa"),
		setText(at, id(0, 3), ""),
		setAttr(at, id(0, 2), "a", ""),
		setAttr(at, id(0, 2), "a", "v"),
		setAttr(at, id(0, 2), "a", "aa"),
		noAttr(at, id(0, 2), "a"),
		setAttr(at, id(0, 2), "b", ""),
		setAttr(at, id(0, 2), "aa", ""),
		noAttr(at, id(256, 2), "a"),
		noAttr(at, id(129, 2), "a"),
	}
}

func TestPutOneStampTwice(t *testing.T) {
	for i, o := range rivals(id(1, 0))[1:] {
		if string(writtenOut(rivals(id(1, 0))[i])) >= string(writtenOut(o)) {
			t.Fatalf("the rivals are not in the order of their bytes at %d", i)
		}
	}
	for _, count := range []int{1, 3, impl.MaxOps} {
		for _, at := range []int{0, count / 2, count - 1} {
			l := rowOfOps(count)
			all := rivals(l[at].At)
			for i, less := range all {
				want := slices.Clone(l)
				want[at] = less
				checkPut(t, "the same one", want, less, want, true)
				others := all[i+1:]
				if count == impl.MaxOps {
					others = others[:min(1, len(others))]
				}
				for _, more := range others {
					l[at] = more
					checkPut(t, "one that is less", l, less, want, true)
					checkPut(t, "one that is greater", want, more, want, true)
				}
			}
		}
	}
}

// Bytes of an operation begin those of no other one, since each tells how long
// it is: of two of them the first byte in which they differ decides.
func TestNoOpBeginsAnother(t *testing.T) {
	r := rand.New(rand.NewPCG(5, 1))
	all := rivals(id(1, 0))
	for range 120 {
		o := drawnOp(r)
		o.At = id(1, 0)
		all = append(all, o)
	}
	for _, a := range all {
		for _, b := range all {
			if shown(a) != shown(b) && bytes.HasPrefix(writtenOut(a), writtenOut(b)) {
				t.Fatalf("%+v begins with %+v", a, b)
			}
			one, okOne := impl.Put([]impl.Op{a}, b)
			two, okTwo := impl.Put([]impl.Op{b}, a)
			if !okOne || !okTwo || shown(one) != shown(two) {
				t.Fatalf("%+v and %+v: %+v, %v or %+v, %v stays", a, b, one, okOne, two, okTwo)
			}
			want, _ := putAs([]impl.Op{a}, b)
			checkShown(t, "which one stays", one, want)
		}
	}
}

func TestPutIntoFull(t *testing.T) {
	l := rowOfOps(impl.MaxOps)
	for _, at := range []impl.Id{id(1, 0), id(1, 7), id(2, 0), id(3, 3), id(40, 4), id(70, 0), id(999, 7), id(impl.MaxClock, 7)} {
		for kind := range 6 {
			checkPut(t, "one more than MaxOps", l, opOfKind(kind, at), l, false)
		}
	}
	almost := l[:impl.MaxOps-1]
	o := opOfKind(0, id(3, 3))
	full, ok := impl.Put(almost, o)
	if !ok || len(full) != impl.MaxOps {
		t.Fatalf("%d of them, %v", len(full), ok)
	}
	o.At.Rep++
	checkPut(t, "MaxOps were put", full, o, full, false)
	o.At.Rep--
	checkPut(t, "the last one again", full, o, full, true)
}

// Promise 4: the order and the number of times in which operations are put say
// nothing; of those with one stamp the one with the least bytes is left.
func TestPutInAnyOrder(t *testing.T) {
	r := rand.New(rand.NewPCG(5, 2))
	for round := range 300 {
		var all []impl.Op
		for range r.IntN(40) {
			o := drawnOp(r)
			o.At = id(1+r.IntN(8), r.IntN(8))
			all = append(all, o)
			for range r.IntN(3) {
				all = append(all, rivals(o.At)[r.IntN(30)])
			}
		}
		least := map[string]impl.Op{}
		for _, o := range all {
			if old, there := least[stampOf(o)]; !there || string(writtenOut(o)) < string(writtenOut(old)) {
				least[stampOf(o)] = o
			}
		}
		var want []impl.Op
		for _, stamp := range slices.Sorted(maps.Keys(least)) {
			want = append(want, least[stamp])
		}
		for range 4 {
			order := append(slices.Clone(all), all[:r.IntN(len(all)+1)]...)
			r.Shuffle(len(order), func(i, k int) { order[i], order[k] = order[k], order[i] })
			checkShown(t, fmt.Sprint("round ", round), putAll(t, order), want)
		}
	}
}

func putAll(t *testing.T, order []impl.Op) []impl.Op {
	t.Helper()
	var l []impl.Op
	for _, o := range order {
		got, ok := impl.Put(l, o)
		if !ok {
			t.Fatalf("Put(%+v, %+v) is false", l, o)
		}
		l = got
	}
	return l
}

func TestPutInAnyOrderUpToMaxOps(t *testing.T) {
	r := rand.New(rand.NewPCG(5, 3))
	want := rowOfOps(impl.MaxOps)
	for range 5 {
		order := append(slices.Clone(want), want...)
		r.Shuffle(len(order), func(i, k int) { order[i], order[k] = order[k], order[i] })
		checkShown(t, "MaxOps, each twice", putAll(t, order), want)
	}
}

func TestPutOfManyLists(t *testing.T) {
	r := rand.New(rand.NewPCG(5, 4))
	put, refused := 0, 0
	for range 4000 {
		var l []impl.Op
		for i := range r.IntN(6) {
			o := drawnOp(r)
			o.At = id(1+2*i+r.IntN(3), r.IntN(3))
			l = append(l, o)
		}
		o := drawnOp(r)
		o.At = id(1+r.IntN(12), r.IntN(3))
		if r.IntN(10) == 0 {
			o = wrongOps(o.At)[r.IntN(8)]
		}
		want, ok := putAs(l, o)
		checkPut(t, "as read", l, o, want, ok)
		checkOps(t, "as read", l, mayBeOps(l))
		if ok {
			put++
		} else {
			refused++
		}
	}
	if put < 1000 || refused < 300 {
		t.Fatalf("%d were put, %d refused", put, refused)
	}
}

// spot is a place with the one it lies in: what is within what is told by
// pointers here, not by ids.
type spot struct {
	place impl.Place
	in    *spot
}

func (s *spot) under(outer *spot) bool { return s == outer || s.in != nil && s.in.under(outer) }

func isVoid(name []byte) bool { return slices.Contains([]string{"br", "hr"}, string(name)) }

func (s *spot) takes() bool { return s != nil && s.place.Kind == 0 && !isVoid(s.place.Name) }

// foldAs is read off the document in another way than the program's: by spots,
// and by attributes as a map.
func foldAs(first impl.Node, l []impl.Op) (impl.State, bool) {
	if !mayBe(first) || isVoid(first.Name) || !mayBeOps(l) {
		return impl.State{}, false
	}
	root := &spot{place: place(rootId, rootId, nil, first)}
	trash := &spot{place: trash()}
	spots := []*spot{root, trash}
	var lay func(n impl.Node, in *spot)
	lay = func(n impl.Node, in *spot) {
		for i, k := range n.Kids {
			s := &spot{place(id(0, len(spots)), in.place.Id, key(i+1), k), in}
			spots = append(spots, s)
			lay(k, s)
		}
	}
	lay(first, root)
	look := func(x impl.Id) *spot {
		at := slices.IndexFunc(spots, func(s *spot) bool { return s.place.Id == x })
		if at < 0 {
			return nil
		}
		return spots[at]
	}
	for _, o := range l {
		node, parent := look(o.Node), look(o.Parent)
		switch {
		case o.Kind == 0 && parent.takes():
			made := impl.Node{Kind: o.Elem, Name: o.Name, Text: o.Text}
			spots = append(spots, &spot{place(o.At, o.Parent, o.Key, made), parent})
		case o.Kind == 0 || node == nil:
		case o.Kind == 1 && node != root && node != trash && parent.takes() && !parent.under(node):
			node.in, node.place.Parent, node.place.Key = parent, o.Parent, o.Key
		case o.Kind == 2 && node.place.Kind == 1:
			node.place.Text = o.Text
		case o.Kind == 3 && node.place.Kind == 0 && node != trash:
			node.place.Attrs = attrsAs(node.place.Attrs, o)
		}
	}
	var out impl.State
	for _, s := range spots {
		out.Places = append(out.Places, s.place)
	}
	return out, true
}

func attrsAs(l []impl.Attr, o impl.Op) []impl.Attr {
	vals := map[string][]byte{}
	for _, a := range l {
		vals[string(a.Name)] = a.Val
	}
	vals[string(o.Name)] = o.Text
	if o.Gone {
		delete(vals, string(o.Name))
	}
	if len(vals) > 4 {
		return l
	}
	var out []impl.Attr
	for _, name := range slices.Sorted(maps.Keys(vals)) {
		out = append(out, impl.Attr{Name: []byte(name), Val: vals[name]})
	}
	return out
}

// folded tells the state, held against foldAs and against what the promise says
// of it.
func folded(t *testing.T, what string, first impl.Node, l ...impl.Op) impl.State {
	t.Helper()
	s, ok := impl.Fold(first, l)
	want, wantOk := foldAs(first, l)
	if ok != wantOk || shown(s) != shown(want) {
		t.Fatalf("%s: Fold(%+v, %+v) = %+v, %v; want %+v, %v", what, first, l, s, ok, want, wantOk)
	}
	if !ok {
		return s
	}
	checkNewMemory(t, s, first, l)
	checkHangsTogether(t, s)
	n, ok := impl.Project(s)
	asRead, readOk := projectAs(s)
	if !ok || !readOk || !impl.NodeOk(n) || shown(n) != shown(asRead) {
		t.Fatalf("%s: Project(%+v) = %+v, %v; want %+v", what, s, n, ok, asRead)
	}
	return s
}

// checkHangsTogether goes from root and trash down, and wants to come to each
// place just once.
func checkHangsTogether(t *testing.T, s impl.State) {
	t.Helper()
	seen := map[impl.Id]bool{rootId: true, trashId: true}
	for more := true; more; {
		more = false
		for _, p := range s.Places {
			if seen[p.Parent] && !seen[p.Id] {
				seen[p.Id], more = true, true
			}
		}
	}
	if len(seen) != len(s.Places) {
		t.Fatalf("%+v: %d of %d hang together with root or trash", s, len(seen), len(s.Places))
	}
}

// projectAs is read off the document in another way than the program's: what
// is well is what can be come to from above, and the tree is cut when it is a
// list of nodes with their depths.
func projectAs(s impl.State) (impl.Node, bool) {
	kids, ok := kidsAs(s)
	if !ok {
		return impl.Node{}, false
	}
	var lines []line
	met := 0
	var down func(p impl.Place, deep int)
	down = func(p impl.Place, deep int) {
		met++
		lines = append(lines, line{deep, loneOf(p)})
		ok = ok && (len(kids[p.Id]) == 0 && deep > 1 || p.Kind == 0 && !isVoid(p.Name))
		for _, kid := range kids[p.Id] {
			down(kid, deep+1)
		}
	}
	down(s.Places[1], 1)
	lines = nil
	down(s.Places[0], 1)
	if !ok || met != len(s.Places) {
		return impl.Node{}, false
	}
	return treeOf(lines), true
}

func loneOf(p impl.Place) impl.Node {
	return impl.Node{Kind: p.Kind, Name: p.Name, Text: p.Text, Attrs: p.Attrs}
}

// kidsAs tells who is within whom, in order; false, if a place alone is not as
// it must be.
func kidsAs(s impl.State) (map[impl.Id][]impl.Place, bool) {
	ids, kids := map[impl.Id]bool{}, map[impl.Id][]impl.Place{}
	for i, p := range s.Places {
		top := i < 2 && p.Id == id(0, i) && p.Parent == rootId && len(p.Key) == 0
		if !top && (i < 2 || !mayBeKey(p.Key)) || ids[p.Id] || !mayBeId(p.Id) || !shaped(loneOf(p)) {
			return nil, false
		}
		ids[p.Id] = true
		if !top {
			kids[p.Parent] = append(kids[p.Parent], p)
		}
	}
	for _, l := range kids {
		slices.SortFunc(l, func(a, b impl.Place) int { return strings.Compare(standing(a), standing(b)) })
	}
	return kids, len(s.Places) >= 2 && len(s.Places) <= 272
}

// standing is a text whose order is that among Kids: a blank is less than all
// that a longer key has there.
func standing(p impl.Place) string { return spelt(p.Key) + " " + spelt(key(p.Id.N, p.Id.Rep)) }

type line struct {
	deep int
	node impl.Node
}

func treeOf(lines []line) impl.Node {
	lines = slices.DeleteFunc(lines, func(l line) bool { return l.deep > 20 })
	lines = lines[:min(len(lines), 120)]
	for i := len(lines) - 1; i > 0; i-- {
		up := i - 1
		for lines[up].deep >= lines[i].deep {
			up--
		}
		lines[up].node.Kids = append([]impl.Node{lines[i].node}, lines[up].node.Kids...)
	}
	return lines[0].node
}

func place(x, parent impl.Id, row []int, n impl.Node) impl.Place {
	return impl.Place{Id: x, Parent: parent, Key: row, Kind: n.Kind, Name: n.Name, Text: n.Text, Attrs: n.Attrs}
}

func trash() impl.Place { return place(trashId, rootId, nil, elem("trash")) }

func TestFoldOfNoOps(t *testing.T) {
	checkShown(t, "an element alone", folded(t, "alone", elem("p")), impl.State{Places: []impl.Place{place(rootId, rootId, nil, elem("p")), trash()}})
	n := page()
	p, ul := n.Kids[3], n.Kids[5]
	want := []impl.Place{
		place(rootId, rootId, nil, n), trash(),
		place(id(0, 2), rootId, key(1), text("one")), place(id(0, 3), rootId, key(2), text("")), place(id(0, 4), rootId, key(3), text("two")),
		place(id(0, 5), rootId, key(4), p),
		place(id(0, 6), id(0, 5), key(1), p.Kids[0]), place(id(0, 7), id(0, 5), key(2), p.Kids[1]), place(id(0, 8), id(0, 5), key(3), p.Kids[2]),
		place(id(0, 9), id(0, 5), key(4), p.Kids[3]), place(id(0, 10), id(0, 9), key(1), text(" ")),
		place(id(0, 11), rootId, key(5), elem("hr")), place(id(0, 12), rootId, key(6), elem("ul")),
		place(id(0, 13), id(0, 12), key(1), ul.Kids[0]), place(id(0, 14), id(0, 13), key(1), text("x")), place(id(0, 15), id(0, 13), key(2), text("y")),
		place(id(0, 16), id(0, 12), key(2), elem("li")),
	}
	for _, l := range [][]impl.Op{nil, {}} {
		checkShown(t, "page", folded(t, "page", page(), l...), impl.State{Places: want})
	}
	back, ok := impl.Project(impl.State{Places: want})
	if !ok || !impl.Same(back, page()) {
		t.Fatalf("the page comes back as %+v, %v", back, ok)
	}
}

func TestFoldOfFirstAtTheLimits(t *testing.T) {
	wide := elem("p", copies(text("x"), impl.MaxParts-1)...)
	s := folded(t, "MaxParts", wide)
	last := s.Places[len(s.Places)-1]
	if len(s.Places) != impl.MaxParts+1 || last.Id != id(0, impl.MaxParts) || shown(last.Key) != shown(key(impl.MaxParts-1)) {
		t.Fatalf("%d places, the last one %+v", len(s.Places), last)
	}
	deep := nested(text("x"), impl.MaxDeep)
	if s := folded(t, "MaxDeep", deep); len(s.Places) != impl.MaxDeep+1 {
		t.Fatalf("%d places", len(s.Places))
	}
	for _, n := range []impl.Node{wide, deep, elem("trash"), elem("body", elem("trash", text("x"))), withAttrs(elem("p"), "a", "", "b", "", "c", "", "d", "")} {
		back, ok := impl.Project(folded(t, "and back", n))
		if !ok || !impl.Same(back, n) {
			t.Fatalf("%+v comes back as %+v, %v", n, back, ok)
		}
	}
}

func checkNoFold(t *testing.T, what string, first impl.Node, l []impl.Op) {
	t.Helper()
	if s, ok := impl.Fold(first, l); ok || shown(s) != shown(impl.State{}) {
		t.Fatalf("%s: Fold is %+v, %v; want nothing", what, s, ok)
	}
}

func TestFoldOfWhatMayNotBe(t *testing.T) {
	good := rowOfOps(3)
	for _, n := range append(wrongTrees(), impl.Node{}, text("x"), elem("P"), elem("p", text("\x1f")),
		elem("p", copies(text(""), impl.MaxParts)...), nested(text("x"), impl.MaxDeep+1), elem("p", elem("br", text("x")))) {
		checkNoFold(t, "first may not be", n, nil)
		checkNoFold(t, "first may not be", n, good)
		checkNoFold(t, "neither may be", n, []impl.Op{{}})
	}
	for _, name := range []string{"br", "hr"} {
		checkNoFold(t, "void", elem(name), nil)
		checkNoFold(t, "void", withAttrs(elem(name), "a", "x"), good)
		checkNoFold(t, "void, with Kids", elem(name, text("x")), nil)
	}
	for _, name := range []string{"b", "r", "h", "br1", "hrs", "bra"} {
		folded(t, "not void", elem(name, text("x")), good...)
	}
	for _, count := range []int{1, 2, 5, impl.MaxOps} {
		for at := range count {
			l := rowOfOps(count)
			for _, wrong := range wrongOps(l[at].At) {
				l[at] = wrong
				checkNoFold(t, "an operation that may not be", page(), l)
			}
		}
	}
	a, b := opOfKind(0, id(2, 0)), opOfKind(1, id(2, 1))
	checkNoFold(t, "in the wrong order", page(), []impl.Op{b, a})
	checkNoFold(t, "one stamp twice", page(), []impl.Op{a, a})
	checkNoFold(t, "too many", page(), rowOfOps(impl.MaxOps+1))
	if s := folded(t, "MaxOps", page(), rowOfOps(impl.MaxOps)...); len(s.Places) != 17+2*impl.MaxOps/6 {
		t.Fatalf("%d places", len(s.Places))
	}
}

// shed is a tree with one of each kind at a known place:
// p 2 (text 3, b 4 (i 5 (u 6), br 7)), text 8, hr 9, ul 10.
func shed() impl.Node {
	p := withAttrs(elem("p", text("a"), elem("b", elem("i", elem("u")), elem("br"))), "c", "1", "e", "2")
	return elem("body", p, text("z"), elem("hr"), elem("ul"))
}

// step is an operation behind others, and what becomes of the one place that it
// changes; nothing, where there is none.
type step struct {
	what   string
	before []impl.Op
	op     impl.Op
	want   []impl.Place
}

// checkStep wants all else to be as it was without the operation.
func checkStep(t *testing.T, first impl.Node, s step) {
	t.Helper()
	before := folded(t, s.what, first, s.before...)
	want := slices.Clone(before.Places)
	for _, p := range s.want {
		at := slices.IndexFunc(want, func(old impl.Place) bool { return old.Id == p.Id })
		if at < 0 {
			want = append(want, p)
		} else {
			want[at] = p
		}
	}
	after := folded(t, s.what, first, append(slices.Clone(s.before), s.op)...)
	checkShown(t, s.what, after, impl.State{Places: want})
	if len(s.want) > 0 && shown(before) == shown(after) {
		t.Fatalf("%s: nothing is changed", s.what)
	}
}

func TestFoldNew(t *testing.T) {
	at := id(7, 2)
	for _, parent := range []impl.Id{rootId, trashId, id(0, 2), id(0, 4), id(0, 5), id(0, 6), id(0, 10)} {
		for _, row := range [][]int{key(1), key(2), key(0, 1), zeros(11, 1), slices.Repeat(key(999), 12)} {
			for _, name := range []string{"p", "br", "trash", "abcdefgh"} {
				checkStep(t, shed(), step{"a new element", nil, newElem(at, parent, row, name), []impl.Place{place(at, parent, row, elem(name))}})
			}
			for _, s := range []string{"", "x", strings.Repeat("~", 30)} {
				checkStep(t, shed(), step{"a new text", nil, newText(at, parent, row, s), []impl.Place{place(at, parent, row, text(s))}})
			}
		}
	}
	for what, parent := range map[string]impl.Id{"no place": id(0, 11), "no place at the limit": id(0, 121), "no stamp": id(3, 0), "a later stamp": id(8, 0),
		"itself": at, "a text": id(0, 3), "another text": id(0, 8), "br": id(0, 7), "hr": id(0, 9)} {
		checkStep(t, shed(), step{"new in " + what, nil, newElem(at, parent, key(1), "p"), nil})
		checkStep(t, shed(), step{"new text in " + what, nil, newText(at, parent, key(1), "x"), nil})
	}
	one, two := id(1, 0), id(1, 1)
	made := []impl.Op{newElem(one, rootId, key(9), "div"), newText(two, one, key(1), "x"), newElem(id(2, 0), one, key(1), "hr")}
	for parent, takes := range map[impl.Id]bool{one: true, two: false, id(2, 0): false, id(1, 2): false, id(2, 1): false} {
		var want []impl.Place
		if takes {
			want = []impl.Place{place(at, parent, key(3), elem("s"))}
		}
		checkStep(t, shed(), step{"new in what was made", made, newElem(at, parent, key(3), "s"), want})
	}
	dropped := []impl.Op{move(one, id(0, 2), trashId, key(1))}
	checkStep(t, shed(), step{"new in what is in the trash", dropped, newElem(at, id(0, 4), key(3), "s"), []impl.Place{place(at, id(0, 4), key(3), elem("s"))}})
}

func TestFoldMove(t *testing.T) {
	at, row := id(7, 2), key(5, 5)
	first := folded(t, "shed", shed())
	moved := func(node, parent impl.Id, row []int) []impl.Place {
		p := first.Places[node.Rep]
		p.Parent, p.Key = parent, row
		return []impl.Place{p}
	}
	p, b, i, u, br, ul := id(0, 2), id(0, 4), id(0, 5), id(0, 6), id(0, 7), id(0, 10)
	for _, r := range []struct {
		what         string
		node, parent impl.Id
		takes        bool
	}{
		{"beside", p, ul, true}, {"into the trash", p, trashId, true}, {"to another key", p, rootId, true}, {"up", i, p, true}, {"up to the root", u, rootId, true},
		{"to where it is", b, p, true}, {"what is empty", ul, u, true}, {"a text", id(0, 3), ul, true}, {"a text to where it is", id(0, 8), rootId, true},
		{"a void one", br, ul, true}, {"a void one into the trash", id(0, 9), trashId, true}, {"down beside", ul, b, true}, {"down below", id(0, 8), u, true},
		{"into itself", p, p, false}, {"into its kid", p, b, false}, {"into its kid's kid", p, i, false}, {"deep into itself", p, u, false},
		{"into itself, without Kids", u, u, false}, {"into its kid", i, u, false}, {"into itself", ul, ul, false},
		{"the root into a place", rootId, ul, false}, {"the root into itself", rootId, rootId, false}, {"the root into the trash", rootId, trashId, false},
		{"the trash into the root", trashId, rootId, false}, {"the trash into itself", trashId, trashId, false}, {"the trash into a place", trashId, ul, false},
		{"no place", id(0, 11), ul, false}, {"no place at the limit", id(0, 121), ul, false}, {"no place with a stamp", id(3, 0), ul, false}, {"its own stamp", at, ul, false},
		{"into no place", p, id(0, 11), false}, {"into no place at the limit", p, id(0, 121), false}, {"into no place with a stamp", p, id(3, 0), false}, {"into its own stamp", p, at, false},
		{"into a text", ul, id(0, 3), false}, {"into another text", ul, id(0, 8), false}, {"into br", ul, br, false}, {"into hr", ul, id(0, 9), false},
		{"a text into itself", id(0, 3), id(0, 3), false}, {"a void one into itself", br, br, false}, {"no place into itself", id(0, 11), id(0, 11), false},
	} {
		var want []impl.Place
		if r.takes {
			want = moved(r.node, r.parent, row)
		}
		checkStep(t, shed(), step{"a move " + r.what, nil, move(at, r.node, r.parent, row), want})
	}
}

func TestFoldMoveBehindOthers(t *testing.T) {
	at, row := id(7, 2), key(5, 5)
	p, b, i, u, ul := id(0, 2), id(0, 4), id(0, 5), id(0, 6), id(0, 10)
	drop := []impl.Op{move(id(1, 0), p, trashId, key(1))}
	upside := []impl.Op{move(id(1, 0), u, rootId, key(1)), move(id(1, 1), b, u, key(1)), move(id(2, 0), p, i, key(1))}
	made := []impl.Op{newElem(id(1, 0), ul, key(1), "div"), newElem(id(1, 1), id(1, 0), key(1), "s"), newText(id(2, 0), id(1, 1), key(1), "x")}
	for _, r := range []struct {
		what         string
		before       []impl.Op
		node, parent impl.Id
		want         impl.Node
		takes        bool
	}{
		{"out of the trash", drop, p, ul, withAttrs(elem("p"), "c", "1", "e", "2"), true},
		{"out of what is in the trash", drop, i, rootId, elem("i"), true},
		{"into what is in the trash", drop, ul, u, elem("ul"), true},
		{"within the trash", drop, p, trashId, withAttrs(elem("p"), "c", "1", "e", "2"), true},
		{"into itself within the trash", drop, p, i, impl.Node{}, false},
		{"the root into the trash", drop, rootId, trashId, impl.Node{}, false},
		{"what lies upside down now", upside, u, p, impl.Node{}, false},
		{"deep into what it lay within", upside, b, p, impl.Node{}, false},
		{"into what it lay within", upside, p, u, withAttrs(elem("p"), "c", "1", "e", "2"), true},
		{"of the middle, up", upside, i, u, elem("i"), true},
		{"of what was made", made, id(1, 0), p, elem("div"), true},
		{"of what was made into itself", made, id(1, 0), id(1, 0), impl.Node{}, false},
		{"of what was made into its kid", made, id(1, 0), id(1, 1), impl.Node{}, false},
		{"of what was made into its text", made, id(1, 0), id(2, 0), impl.Node{}, false},
		{"into what was made", made, p, id(1, 1), withAttrs(elem("p"), "c", "1", "e", "2"), true},
		{"of what holds what was made into it", made, ul, id(1, 1), impl.Node{}, false},
		{"of a text that was made", made, id(2, 0), rootId, text("x"), true},
	} {
		var want []impl.Place
		if r.takes {
			want = []impl.Place{place(r.node, r.parent, row, r.want)}
		}
		checkStep(t, shed(), step{"a move " + r.what, r.before, move(at, r.node, r.parent, row), want})
	}
}

// Of two moves that would put each within the other, the one with the greater
// stamp does nothing.
func TestFoldMovesIntoEachOther(t *testing.T) {
	n := elem("body", elem("p"), elem("b"), elem("i"))
	p, b, i := id(0, 2), id(0, 3), id(0, 4)
	for _, r := range []struct {
		ops  []impl.Op
		want string
	}{
		{[]impl.Op{move(id(1, 0), p, b, key(1)), move(id(1, 1), b, p, key(1))}, "<body><b><p></p></b><i></i></body>"},
		{[]impl.Op{move(id(1, 0), b, p, key(1)), move(id(1, 1), p, b, key(1))}, "<body><p><b></b></p><i></i></body>"},
		{[]impl.Op{move(id(1, 0), p, b, key(1)), move(id(1, 1), b, i, key(1)), move(id(1, 2), i, p, key(1))}, "<body><i><b><p></p></b></i></body>"},
		{[]impl.Op{move(id(1, 0), p, b, key(1)), move(id(1, 1), p, rootId, key(4)), move(id(1, 2), b, p, key(1))}, "<body><i></i><p><b></b></p></body>"},
		{[]impl.Op{move(id(1, 0), p, trashId, key(1)), move(id(1, 1), b, p, key(1)), move(id(1, 2), p, b, key(1))}, "<body><i></i></body>"},
		{[]impl.Op{move(id(1, 0), p, b, key(1)), move(id(1, 1), b, trashId, key(1)), move(id(1, 2), p, rootId, key(1))}, "<body><p></p><i></i></body>"},
	} {
		s := folded(t, "moves", n, r.ops...)
		tree, _ := impl.Project(s)
		checkShown(t, shown(r.ops), string(impl.Markup(tree)), r.want)
	}
}

func TestFoldText(t *testing.T) {
	at := id(7, 2)
	for _, s := range []string{"", "new", " ", strings.Repeat("~", 30)} {
		checkStep(t, shed(), step{"a text", nil, setText(at, id(0, 3), s), []impl.Place{place(id(0, 3), id(0, 2), key(1), text(s))}})
		checkStep(t, shed(), step{"another text", nil, setText(at, id(0, 8), s), []impl.Place{place(id(0, 8), rootId, key(2), text(s))}})
		for what, node := range map[string]impl.Id{"root": rootId, "trash": trashId, "p": id(0, 2), "br": id(0, 7), "hr": id(0, 9), "ul": id(0, 10), "no place": id(0, 11),
			"no place at the limit": id(0, 121), "a stamp": id(3, 0), "its own stamp": at} {
			checkStep(t, shed(), step{"text of " + what, nil, setText(at, node, s), nil})
		}
	}
	checkStep(t, shed(), step{"the same text", nil, setText(at, id(0, 3), "a"), nil})
	one, two := id(1, 0), id(1, 1)
	made := []impl.Op{newText(one, trashId, key(9), "x"), newElem(two, rootId, key(1), "p")}
	checkStep(t, shed(), step{"of what was made", made, setText(at, one, "y"), []impl.Place{place(one, trashId, key(9), text("y"))}})
	checkStep(t, shed(), step{"of an element that was made", made, setText(at, two, "y"), nil})
	checkStep(t, shed(), step{"again", append(made, setText(id(2, 0), one, "y")), setText(at, one, "z"), []impl.Place{place(one, trashId, key(9), text("z"))}})
	checkStep(t, shed(), step{"ahead of its node", []impl.Op{setText(one, two, "y")}, newText(two, rootId, key(1), "x"), []impl.Place{place(two, rootId, key(1), text("x"))}})
}

func TestFoldAttr(t *testing.T) {
	at := id(7, 2)
	for _, r := range []struct {
		what string
		op   impl.Op
		want []string
	}{
		{"first", setAttr(at, id(0, 2), "a", "v"), []string{"a", "v", "c", "1", "e", "2"}},
		{"between", setAttr(at, id(0, 2), "d", "v"), []string{"c", "1", "d", "v", "e", "2"}},
		{"last", setAttr(at, id(0, 2), "f", "v"), []string{"c", "1", "e", "2", "f", "v"}},
		{"behind one that begins it", setAttr(at, id(0, 2), "cc", ""), []string{"c", "1", "cc", "", "e", "2"}},
		{"a digit", setAttr(at, id(0, 2), "c0", ""), []string{"c", "1", "c0", "", "e", "2"}},
		{"there", setAttr(at, id(0, 2), "c", "new"), []string{"c", "new", "e", "2"}},
		{"there, the last", setAttr(at, id(0, 2), "e", strings.Repeat("~", 30)), []string{"c", "1", "e", strings.Repeat("~", 30)}},
		{"there, now empty", setAttr(at, id(0, 2), "c", ""), []string{"c", "", "e", "2"}},
		{"gone", noAttr(at, id(0, 2), "c"), []string{"e", "2"}},
		{"gone, the last", noAttr(at, id(0, 2), "e"), []string{"c", "1"}},
	} {
		p := withAttrs(elem("p"), r.want...)
		checkStep(t, shed(), step{r.what, nil, r.op, []impl.Place{place(id(0, 2), rootId, key(1), p)}})
	}
	checkStep(t, shed(), step{"gone and not there", nil, noAttr(at, id(0, 2), "d"), nil})
	checkStep(t, shed(), step{"gone and nearly there", nil, noAttr(at, id(0, 2), "ee"), nil})
	checkStep(t, shed(), step{"as it is", nil, setAttr(at, id(0, 2), "c", "1"), nil})
	for node, want := range map[impl.Id]impl.Place{
		rootId:    place(rootId, rootId, nil, withAttrs(elem("body"), "a", "v")),
		id(0, 7):  place(id(0, 7), id(0, 4), key(2), withAttrs(elem("br"), "a", "v")),
		id(0, 9):  place(id(0, 9), rootId, key(3), withAttrs(elem("hr"), "a", "v")),
		id(0, 10): place(id(0, 10), rootId, key(4), withAttrs(elem("ul"), "a", "v")),
	} {
		checkStep(t, shed(), step{"of another element", nil, setAttr(at, node, "a", "v"), []impl.Place{want}})
		checkStep(t, shed(), step{"gone of another element", nil, noAttr(at, node, "a"), nil})
	}
	for what, node := range map[string]impl.Id{"a text": id(0, 3), "another text": id(0, 8), "the trash": trashId, "no place": id(0, 11),
		"no place at the limit": id(0, 121), "a stamp": id(3, 0), "its own stamp": at} {
		checkStep(t, shed(), step{"of " + what, nil, setAttr(at, node, "a", "v"), nil})
		checkStep(t, shed(), step{"gone of " + what, nil, noAttr(at, node, "a"), nil})
	}
}

func TestFoldAttrsUpToMaxAttrs(t *testing.T) {
	at := id(7, 2)
	full := withAttrs(elem("p", elem("b")), "b", "1", "d", "2", "f", "3", "h", "4")
	for _, name := range []string{"a", "c", "e", "g", "i", "bb"} {
		checkStep(t, full, step{"one more than MaxAttrs", nil, setAttr(at, rootId, name, "v"), nil})
		checkStep(t, full, step{"one that is not there goes", nil, noAttr(at, rootId, name), nil})
	}
	for i, name := range []string{"b", "d", "f", "h"} {
		n := roomyOf(full)
		n.Attrs[i].Val = []byte("v")
		checkStep(t, full, step{"one of MaxAttrs", nil, setAttr(at, rootId, name, "v"), []impl.Place{place(rootId, rootId, nil, n)}})
		n.Attrs = slices.Delete(n.Attrs, i, i+1)
		checkStep(t, full, step{"one of MaxAttrs goes", nil, noAttr(at, rootId, name), []impl.Place{place(rootId, rootId, nil, n)}})
		for _, other := range []string{"a", "c", "e", "g", "i"} {
			m := n
			m.Attrs = append(slices.Clone(n.Attrs), impl.Attr{Name: []byte(other), Val: []byte("w")})
			slices.SortFunc(m.Attrs, func(a, b impl.Attr) int { return bytes.Compare(a.Name, b.Name) })
			gone := []impl.Op{noAttr(id(1, 0), rootId, name)}
			checkStep(t, full, step{"one in place of another", gone, setAttr(at, rootId, other, "w"), []impl.Place{place(rootId, rootId, nil, m)}})
		}
	}
	three := withAttrs(elem("p"), "b", "1", "d", "2", "f", "3")
	checkStep(t, three, step{"the MaxAttrs-th", nil, setAttr(at, rootId, "c", "v"), []impl.Place{place(rootId, rootId, nil, withAttrs(elem("p"), "b", "1", "c", "v", "d", "2", "f", "3"))}})
	made := []impl.Op{newElem(id(1, 0), rootId, key(1), "br")}
	for i, name := range []string{"z", "y", "x", "w"} {
		made = append(made, setAttr(id(2+i, 0), id(1, 0), name, name))
	}
	want := withAttrs(elem("br"), "w", "w", "x", "x", "y", "y", "z", "z")
	checkStep(t, full, step{"the last one of what was made", made[:4], made[4], []impl.Place{place(id(1, 0), rootId, key(1), want)}})
	checkStep(t, full, step{"one more of what was made", made, setAttr(at, id(1, 0), "a", ""), nil})
}

func checkProject(t *testing.T, what string, s impl.State, want impl.Node, wantOk bool) {
	t.Helper()
	for _, given := range []impl.State{s, roomyOf(s)} {
		got, ok := impl.Project(given)
		if ok != wantOk || shown(got) != shown(want) {
			t.Fatalf("%s: Project(%+v) = %+v, %v; want %+v, %v", what, s, got, ok, want, wantOk)
		}
		if ok && !impl.NodeOk(got) {
			t.Fatalf("%s: Project(%+v) = %+v, which is not NodeOk", what, s, got)
		}
		checkNewMemory(t, got, given)
	}
}

func checkNoProject(t *testing.T, what string, s impl.State) {
	t.Helper()
	checkProject(t, what, s, impl.Node{}, false)
	if _, ok := projectAs(s); ok {
		t.Fatalf("%s: %+v is read as a state that may be", what, s)
	}
}

func checkProjectAsRead(t *testing.T, what string, s impl.State) bool {
	t.Helper()
	want, ok := projectAs(s)
	checkProject(t, what, s, want, ok)
	return ok
}

// stateOf has root and trash ahead of these places.
func stateOf(others ...impl.Place) impl.State {
	return impl.State{Places: append([]impl.Place{place(rootId, rootId, nil, elem("body")), trash()}, others...)}
}

// broken is a copy of shed's state in which one place is changed.
func broken(t *testing.T, at int, do func(*impl.Place)) impl.State {
	t.Helper()
	s, ok := impl.Fold(shed(), nil)
	if !ok || len(s.Places) != 11 {
		t.Fatalf("Fold of the shed: %+v, %v", s, ok)
	}
	do(&s.Places[at])
	return s
}

func TestProjectSizes(t *testing.T) {
	checkNoProject(t, "none", impl.State{})
	checkNoProject(t, "none", impl.State{Places: []impl.Place{}})
	checkNoProject(t, "the root alone", impl.State{Places: stateOf().Places[:1]})
	checkNoProject(t, "the trash alone", impl.State{Places: stateOf().Places[1:]})
	checkNoProject(t, "zeros", impl.State{Places: make([]impl.Place, 2)})
	checkProject(t, "root and trash", stateOf(), elem("body"), true)
	var others []impl.Place
	for i := range 120 {
		others = append(others, place(id(0, i+2), trashId, key(1), text("x")))
	}
	for i := range 149 {
		others = append(others, place(id(i/8+1, i%8), trashId, key(1), text("x")))
	}
	checkProject(t, "one fewer than may be", stateOf(others...), elem("body"), true)
	others = append(others, place(id(500, 0), rootId, key(1), text("y")))
	if len(others)+2 != impl.MaxParts+impl.MaxOps+2 {
		t.Fatal(len(others))
	}
	checkProject(t, "as many as may be", stateOf(others...), elem("body", text("y")), true)
	more := append(others, place(id(500, 1), rootId, key(1), text("z")))
	checkNoProject(t, "one more", stateOf(more...))
	checkNoProject(t, "two more", stateOf(append(more, place(id(500, 2), rootId, key(1), text("z")))...))
}

func TestProjectOfRootAndTrash(t *testing.T) {
	want := shed()
	checkProject(t, "as it is", broken(t, 0, func(*impl.Place) {}), want, true)
	for at := range 2 {
		for what, do := range map[string]func(*impl.Place){
			"no id":              func(p *impl.Place) { p.Id = id(0, 122) },
			"a free id":          func(p *impl.Place) { p.Id = id(0, 11) },
			"a stamp":            func(p *impl.Place) { p.Id = id(1, at) },
			"the other one":      func(p *impl.Place) { p.Id = id(0, 1-at) },
			"a text":             func(p *impl.Place) { p.Kind, p.Name, p.Text = impl.NdText, nil, []byte("x") },
			"an empty text":      func(p *impl.Place) { p.Kind, p.Name = impl.NdText, nil },
			"br":                 func(p *impl.Place) { p.Name = []byte("br") },
			"hr":                 func(p *impl.Place) { p.Name = []byte("hr") },
			"the trash's Parent": func(p *impl.Place) { p.Parent = trashId },
			"a place's Parent":   func(p *impl.Place) { p.Parent = id(0, 2) },
			"no place's Parent":  func(p *impl.Place) { p.Parent = id(0, 50) },
			"a stamp's Parent":   func(p *impl.Place) { p.Parent = id(1, 0) },
			"a wrong Parent":     func(p *impl.Place) { p.Parent = id(-1, 0) },
			"a key":              func(p *impl.Place) { p.Key = key(1) },
			"a key that is none": func(p *impl.Place) { p.Key = key(0) },
			"no name":            func(p *impl.Place) { p.Name = nil },
			"a wrong name":       func(p *impl.Place) { p.Name = []byte("Body") },
			"Text":               func(p *impl.Place) { p.Text = []byte("x") },
			"a wrong attribute":  func(p *impl.Place) { p.Attrs = make([]impl.Attr, 1) },
			"a kind":             func(p *impl.Place) { p.Kind = 2 },
		} {
			checkNoProject(t, what, broken(t, at, do))
		}
		empty := broken(t, at, func(p *impl.Place) { p.Key, p.Text, p.Attrs = []int{}, []byte{}, []impl.Attr{} })
		checkProject(t, "empty lists", empty, want, true)
	}
	swapped := broken(t, 0, func(*impl.Place) {})
	swapped.Places[0], swapped.Places[1] = swapped.Places[1], swapped.Places[0]
	checkNoProject(t, "turned round", swapped)
	late := broken(t, 0, func(*impl.Place) {})
	late.Places[1], late.Places[10] = late.Places[10], late.Places[1]
	checkNoProject(t, "the trash last", late)
	late = broken(t, 0, func(*impl.Place) {})
	late.Places[0], late.Places[10] = late.Places[10], late.Places[0]
	checkNoProject(t, "the root last", late)
	other := broken(t, 0, func(p *impl.Place) { p.Name, p.Attrs = []byte("trash"), withAttrs(elem("p"), "a", "v").Attrs })
	want.Name, want.Attrs = []byte("trash"), other.Places[0].Attrs
	checkProject(t, "another name and attributes of the root", other, want, true)
	other = broken(t, 1, func(p *impl.Place) { p.Name, p.Attrs = []byte("bin"), withAttrs(elem("p"), "a", "v").Attrs })
	checkProject(t, "another name and attributes of the trash", other, shed(), true)
}

func TestProjectOfIds(t *testing.T) {
	for _, at := range []int{2, 3, 7, 10} {
		for _, x := range edgeIds() {
			s := broken(t, at, func(p *impl.Place) { p.Id = x })
			if !mayBeId(x) {
				checkNoProject(t, shown(x), s)
			}
			checkProjectAsRead(t, shown(x), s)
		}
		for other := range 11 {
			if other != at {
				checkNoProject(t, "an id twice", broken(t, at, func(p *impl.Place) { p.Id = id(0, other) }))
			}
		}
	}
	for _, x := range []impl.Id{id(0, 121), id(1, 0), id(1, 7), id(impl.MaxClock, 0), id(impl.MaxClock, 7)} {
		checkProject(t, "an id at an edge", stateOf(place(x, rootId, key(1), text("x"))), elem("body", text("x")), true)
	}
	same := place(id(5, 5), rootId, key(1), text("x"))
	checkNoProject(t, "the same place twice", stateOf(same, same))
	checkNoProject(t, "an id twice, far from another", stateOf(same, place(id(0, 2), rootId, key(1), text("")), place(id(5, 5), trashId, key(2), elem("p"))))
	checkNoProject(t, "the root once more", stateOf(place(rootId, rootId, key(1), elem("body"))))
	checkNoProject(t, "the trash once more", stateOf(place(trashId, rootId, key(1), elem("trash"))))
}

func TestProjectOfPlacesThatMayNotBe(t *testing.T) {
	for what, n := range map[string]impl.Node{
		"no name":              elem(""),
		"a wrong name":         elem("aB"),
		"a long name":          elem("abcdefghi"),
		"a kind":               {Kind: 2, Name: []byte("p")},
		"another kind":         {Kind: -1, Text: []byte("x")},
		"an element's Text":    {Name: []byte("p"), Text: []byte("x")},
		"a text's Name":        {Kind: impl.NdText, Name: []byte("p")},
		"a text's Attrs":       {Kind: impl.NdText, Attrs: withAttrs(elem("p"), "a", "").Attrs},
		"a long text":          text(strings.Repeat("x", 31)),
		"a byte of a text":     text("\x1f"),
		"a byte above":         text("a\x7f"),
		"one attribute more":   withAttrs(elem("p"), "a", "", "b", "", "c", "", "d", "", "e", ""),
		"falling attributes":   withAttrs(elem("p"), "b", "", "a", ""),
		"an attribute twice":   withAttrs(elem("br"), "a", "", "a", ""),
		"an attribute's name":  withAttrs(elem("p"), "", ""),
		"an attribute's value": withAttrs(elem("p"), "a", "\n"),
		"a long value":         withAttrs(elem("p"), "a", strings.Repeat("x", 31)),
	} {
		for _, parent := range []impl.Id{rootId, trashId} {
			checkNoProject(t, what, stateOf(place(id(0, 2), parent, key(1), n)))
			checkNoProject(t, what+", last", stateOf(place(id(0, 2), parent, key(1), text("")), place(id(0, 3), parent, key(1), n)))
			checkNoProject(t, what+", first", stateOf(place(id(0, 2), parent, key(1), n), place(id(0, 3), parent, key(1), text(""))))
		}
	}
	for _, n := range []impl.Node{elem("p"), elem("br"), elem("abcdefgh"), text(""), text(strings.Repeat("~", 30)), withAttrs(elem("hr"), "a", "", "b", "", "c", "", "d", "")} {
		checkProject(t, shown(n), stateOf(place(id(0, 2), rootId, key(1), n)), elem("body", n), true)
	}
}

func TestProjectOfKeysAndParents(t *testing.T) {
	for _, at := range []int{2, 3, 6, 10} {
		checkNoProject(t, "no key", broken(t, at, func(p *impl.Place) { p.Key = nil }))
		checkNoProject(t, "no key", broken(t, at, func(p *impl.Place) { p.Key = []int{} }))
		for _, row := range noKeys() {
			checkNoProject(t, "what is no key", broken(t, at, func(p *impl.Place) { p.Key = row }))
		}
		for _, row := range someKeys() {
			if !checkProjectAsRead(t, "a key", broken(t, at, func(p *impl.Place) { p.Key = row })) {
				t.Fatalf("the key %v", row)
			}
		}
		for what, parent := range map[string]impl.Id{"no place": id(0, 11), "no place at the limit": id(0, 121), "no stamp": id(1, 0), "no id": id(-1, 0), "no id either": id(0, 122),
			"a text": id(0, 8), "a text within": id(0, 3), "br": id(0, 7), "hr": id(0, 9)} {
			checkNoProject(t, "a Parent that is "+what, broken(t, at, func(p *impl.Place) { p.Parent = parent }))
		}
		checkNoProject(t, "its own Parent", broken(t, at, func(p *impl.Place) { p.Parent = p.Id }))
	}
	trashed := func(n impl.Node, parent impl.Id) impl.State {
		return stateOf(place(id(0, 2), trashId, key(1), n), place(id(0, 3), parent, key(1), text("x")))
	}
	checkProject(t, "in an element of the trash", trashed(elem("p"), id(0, 2)), elem("body"), true)
	checkNoProject(t, "in a text of the trash", trashed(text(""), id(0, 2)))
	checkNoProject(t, "in br of the trash", trashed(elem("br"), id(0, 2)))
	checkNoProject(t, "in no place", trashed(elem("p"), id(0, 4)))
}

// ringOf are places of which each is within the next, the last within the
// first; they take ids from the given one on.
func ringOf(from, count int) []impl.Place {
	var out []impl.Place
	for i := range count {
		out = append(out, place(id(0, from+i), id(0, from+(i+1)%count), key(i+1), elem("p")))
	}
	return out
}

func TestProjectOfRings(t *testing.T) {
	well := folded(t, "shed", shed()).Places[2:]
	for _, size := range []int{1, 2, 3, 4, 10, 100} {
		ring := ringOf(11, size)
		backward := slices.Clone(ring)
		slices.Reverse(backward)
		tail := place(id(1, 0), id(0, 11), key(1), elem("i"))
		for what, others := range map[string][]impl.Place{
			"alone":                   ring,
			"the other way round":     backward,
			"behind a tree":           slices.Concat(well, ring),
			"ahead of a tree":         slices.Concat(ring, well),
			"among a tree":            slices.Concat(well[:3], ring, well[3:]),
			"with one hanging on it":  append(slices.Clone(ring), tail),
			"with one ahead of it":    append([]impl.Place{tail}, ring...),
			"with two hanging on it":  append(slices.Clone(ring), tail, place(id(1, 1), id(1, 0), key(1), text("x"))),
			"beside another ring":     slices.Concat(ring, []impl.Place{place(id(1, 0), id(1, 1), key(1), elem("p")), place(id(1, 1), id(1, 0), key(1), elem("p"))}),
			"with the trash not idle": append(slices.Clone(ring), place(id(1, 0), trashId, key(1), elem("p"))),
		} {
			checkNoProject(t, fmt.Sprint("a ring of ", size, " ", what), stateOf(others...))
			for i := range others {
				if others[i].Id == id(0, 11) {
					for _, top := range []impl.Id{rootId, trashId} {
						opened := slices.Clone(others)
						opened[i].Parent = top
						if got := checkProjectAsRead(t, "a ring that is opened", stateOf(opened...)); got != (what != "beside another ring") {
							t.Fatalf("a ring of %d %s, opened: %v", size, what, got)
						}
					}
				}
			}
		}
	}
	checkNoProject(t, "a ring as long as may be", stateOf(longRing()...))
}

func longRing() []impl.Place {
	var out []impl.Place
	for i := range 270 {
		out = append(out, place(id(i+1, 0), id((i+1)%270+1, 0), key(1), elem("p")))
	}
	return out
}

func TestProjectOrdersKids(t *testing.T) {
	rows := [][]int{zeros(11, 1), key(0, 0, 1), key(0, 1), key(0, 999), key(1), key(1, 0, 1), key(1, 1), key(1, 999, 999), key(2), key(9), key(10), key(100), key(999), key(999, 1), slices.Repeat(key(999), 12)}
	stamps := []impl.Id{id(0, 2), id(0, 10), id(0, 100), id(1, 0), id(1, 7), id(2, 0), id(10, 1), id(impl.MaxClock, 7)}
	var byKey, byId []impl.Place
	want, wantId := elem("body"), elem("body")
	for i, row := range rows {
		word := fmt.Sprint("key ", i)
		byKey = append(byKey, place(id(100-i, i%3), rootId, row, text(word)))
		want.Kids = append(want.Kids, text(word))
	}
	for i, x := range stamps {
		word := fmt.Sprint("id ", i)
		byId = append(byId, place(x, rootId, key(7), text(word)))
		wantId.Kids = append(wantId.Kids, text(word))
	}
	r := rand.New(rand.NewPCG(5, 5))
	for range 50 {
		checkProject(t, "by Key", stateOf(byKey...), want, true)
		checkProject(t, "by Id", stateOf(byId...), wantId, true)
		r.Shuffle(len(byKey), func(i, k int) { byKey[i], byKey[k] = byKey[k], byKey[i] })
		r.Shuffle(len(byId), func(i, k int) { byId[i], byId[k] = byId[k], byId[i] })
	}
}

func TestProjectLooksAtParentsAlone(t *testing.T) {
	p, b := place(id(0, 2), rootId, key(2), elem("p")), place(id(0, 3), id(0, 2), key(1), elem("b"))
	x, y := place(id(0, 4), id(0, 3), key(1), text("x")), place(id(1, 0), rootId, key(1), text("y"))
	gone, within := place(id(1, 1), trashId, key(1), elem("i")), place(id(1, 2), id(1, 1), key(1), text("z"))
	want := elem("body", text("y"), elem("p", elem("b", text("x"))))
	others := []impl.Place{p, b, x, y, gone, within}
	r := rand.New(rand.NewPCG(5, 6))
	for range 100 {
		checkProject(t, "in any order", stateOf(others...), want, true)
		r.Shuffle(len(others), func(i, k int) { others[i], others[k] = others[k], others[i] })
	}
}

// chain are elements, each within the one ahead of it, the first within top.
func chain(from, count int, top impl.Id) []impl.Place {
	var out []impl.Place
	for i := range count {
		out = append(out, place(id(0, from+i), top, key(5), elem("d")))
		top = id(0, from+i)
	}
	return out
}

func TestProjectDepth(t *testing.T) {
	for _, count := range []int{1, impl.MaxDeep - 2, impl.MaxDeep - 1, impl.MaxDeep, impl.MaxDeep + 1, 100} {
		l := chain(2, count, rootId)
		kept := min(count, impl.MaxDeep-1)
		want := elem("body", nested(elem("d"), kept))
		checkProject(t, fmt.Sprint(count, " within one another"), stateOf(l...), want, true)
		behind := place(id(1, 0), rootId, key(6), text("behind"))
		want.Kids = append(want.Kids, text("behind"))
		checkProject(t, "what comes behind the deep one", stateOf(append(l, behind)...), want, true)
		beside := place(id(1, 1), id(0, 1+kept), key(9), text("beside"))
		if count < impl.MaxDeep {
			beside.Parent = l[len(l)-1].Parent
		}
		checkProjectAsRead(t, "what lies beside the deep one", stateOf(append(l, beside)...))
	}
	l := chain(2, impl.MaxDeep-2, rootId)
	last := l[len(l)-1].Id
	at20 := []impl.Place{place(id(1, 0), last, key(1), elem("p")), place(id(1, 1), last, key(2), elem("br")), place(id(1, 2), last, key(3), text("x"))}
	inner := elem("d", elem("p"), elem("br"), text("x"))
	want := elem("body", nested(inner, impl.MaxDeep-2))
	checkProject(t, "three at MaxDeep", stateOf(append(l, at20...)...), want, true)
	deeper := place(id(2, 0), id(1, 0), key(1), text("too deep"))
	checkProject(t, "one at MaxDeep + 1", stateOf(append(append(l, at20...), deeper)...), want, true)
}

// texts are that many beside one another, with stamps from the given N on.
func texts(from, count int, parent impl.Id, row ...int) []impl.Place {
	var out []impl.Place
	for i := range count {
		out = append(out, place(id(from+i, 0), parent, row, text("x")))
	}
	return out
}

func TestProjectParts(t *testing.T) {
	for _, count := range []int{impl.MaxParts - 2, impl.MaxParts - 1, impl.MaxParts, impl.MaxParts + 1, 270} {
		want := elem("body", copies(text("x"), min(count, impl.MaxParts-1))...)
		checkProject(t, fmt.Sprint(count, " beside one another"), stateOf(texts(1, count, rootId, 1)...), want, true)
	}
	p, b := place(id(0, 2), rootId, key(1), elem("p")), place(id(0, 3), rootId, key(3), elem("b"))
	full := slices.Concat([]impl.Place{p, b}, texts(1, 118, id(0, 2), 1))
	checkProject(t, "the first one has them all", stateOf(full...), elem("body", elem("p", copies(text("x"), 118)...)), true)
	almost := slices.Concat([]impl.Place{p, b}, texts(1, 117, id(0, 2), 1), texts(200, 5, id(0, 3), 1))
	checkProject(t, "there is room for one more, with none of its Kids", stateOf(almost...), elem("body", elem("p", copies(text("x"), 117)...), elem("b")), true)
	some := slices.Concat([]impl.Place{p, b}, texts(1, 114, id(0, 2), 1), texts(200, 5, id(0, 3), 1), texts(300, 1, rootId, 2), texts(400, 9, rootId, 4))
	want := elem("body", elem("p", copies(text("x"), 114)...), text("x"), elem("b", copies(text("x"), 2)...))
	checkProject(t, "some of its Kids", stateOf(some...), want, true)
	inTrash := slices.Concat(texts(1, 119, rootId, 1), texts(200, 100, trashId, 1))
	checkProject(t, "what hangs in the trash is not counted", stateOf(inTrash...), elem("body", copies(text("x"), 119)...), true)
}

// What is left away as too deep is not counted.
func TestProjectPartsAndDepth(t *testing.T) {
	for _, deep := range []int{impl.MaxDeep, impl.MaxDeep + 1, 60} {
		l := chain(2, deep, rootId)
		kept := impl.MaxDeep - 1
		room := impl.MaxParts - 1 - kept
		want := elem("body", nested(elem("d"), kept))
		want.Kids = append(want.Kids, copies(text("x"), room)...)
		for _, more := range []int{0, 1, 50} {
			all := append(slices.Clone(l), texts(1, room+more, rootId, 9)...)
			checkProject(t, fmt.Sprint("too deep by ", deep-kept, ", too many by ", more), stateOf(all...), want, true)
		}
		if _, ok := projectAs(stateOf(l...)); !ok {
			t.Fatal("not read")
		}
	}
}

// firstDrawn is a tree that Fold takes.
func firstDrawn(r *rand.Rand) impl.Node {
	for {
		if n := grown(r, 1+r.IntN(6), 0); !isVoid(n.Name) && mayBe(n) {
			return n
		}
	}
}

// opsDrawn are operations in order that speak of one another's places and of
// those of a first tree with so many parts, now and then of none.
func opsDrawn(r *rand.Rand, count, parts int) []impl.Op {
	var out []impl.Op
	at := id(1, 0)
	some := func() impl.Id {
		switch r.IntN(8) {
		case 0:
			return id(r.IntN(2)*r.IntN(at.N+2), r.IntN(8))
		case 1, 2, 3:
			if len(out) > 0 {
				return out[r.IntN(len(out))].At
			}
		}
		return id(0, r.IntN(parts+2))
	}
	for range count {
		at = []impl.Id{id(at.N+1, r.IntN(8)), id(at.N, at.Rep+1)}[r.IntN(2)]
		if at.Rep > 7 {
			at = id(at.N+1, 0)
		}
		row := []int{1 + r.IntN(3)}
		if r.IntN(3) == 0 {
			row = append(row, 1+r.IntN(2))
		}
		word := []string{"a", "b", "c1", "d", "e", "f"}[r.IntN(6)]
		out = append(out, []impl.Op{
			newElem(at, some(), row, []string{"p", "b", "br", "ul"}[r.IntN(4)]), newText(at, some(), row, word),
			move(at, some(), some(), row), move(at, some(), some(), row), move(at, some(), some(), row),
			setText(at, some(), word), setAttr(at, some(), word, "v"), noAttr(at, some(), word),
		}[r.IntN(8)])
	}
	return out
}

// changesOf counts the places in which two states differ.
func changesOf(a, b impl.State) int {
	count := max(len(a.Places), len(b.Places)) - min(len(a.Places), len(b.Places))
	for i := range min(len(a.Places), len(b.Places)) {
		if shown(a.Places[i]) != shown(b.Places[i]) {
			count++
		}
	}
	return count
}

// Promise 5: whatever operations, there is a tree, and the last one of them
// changes one place at most.
func TestFoldOfManyOps(t *testing.T) {
	r := rand.New(rand.NewPCG(5, 7))
	changed, idle := [4]int{}, [4]int{}
	for range 3000 {
		first := firstDrawn(r)
		parts, _ := sizeOf(first)
		l := opsDrawn(r, 1+r.IntN(40), parts)
		after := folded(t, "drawn", first, l...)
		last := l[len(l)-1]
		switch before := folded(t, "drawn, without the last one", first, l[:len(l)-1]...); changesOf(before, after) {
		case 0:
			idle[last.Kind]++
		case 1:
			changed[last.Kind]++
		default:
			t.Fatalf("%+v changes %+v into %+v", last, before, after)
		}
	}
	for kind := range 4 {
		if changed[kind] < 50 || idle[kind] < 50 {
			t.Fatalf("%v change a place, %v do not: the draw tells little", changed, idle)
		}
	}
}

func TestFoldOfMaxOps(t *testing.T) {
	r := rand.New(rand.NewPCG(5, 8))
	for range 100 {
		first := firstDrawn(r)
		parts, _ := sizeOf(first)
		folded(t, "MaxOps drawn", first, opsDrawn(r, impl.MaxOps, parts)...)
	}
	var made []impl.Op
	for i := range impl.MaxOps {
		made = append(made, newElem(id(i+1, 0), id(0, impl.MaxParts), key(1), "p"))
	}
	wide := elem("p", copies(elem("b"), impl.MaxParts-1)...)
	if s := folded(t, "as many places as come", wide, made...); len(s.Places) != impl.MaxParts+impl.MaxOps+1 {
		t.Fatalf("%d places", len(s.Places))
	}
	for i := range made[1:] {
		made[i+1].Parent = made[i].At
	}
	s := folded(t, "as deep as it comes", wide, made...)
	n, _ := impl.Project(s)
	if _, deep := sizeOf(n); deep != 2 {
		t.Fatal(deep)
	}
	s = folded(t, "the last one of few", elem("p", copies(elem("b"), 3)...), append(made[:0:0], newElem(id(1, 0), id(0, 4), key(1), "p"))...)
	if len(s.Places) != 6 {
		t.Fatalf("%d places", len(s.Places))
	}
	made[0].Parent = rootId
	s = folded(t, "as deep as it comes, from the root on", elem("p"), made...)
	n, _ = impl.Project(s)
	if count, deep := sizeOf(n); deep != impl.MaxDeep || count != impl.MaxDeep {
		t.Fatal(count, deep)
	}
}

// What was put in whatever order makes the same document.
func TestPutInAnyOrderAndFolded(t *testing.T) {
	r := rand.New(rand.NewPCG(5, 9))
	for range 200 {
		first := firstDrawn(r)
		parts, _ := sizeOf(first)
		l := opsDrawn(r, 1+r.IntN(30), parts)
		want := folded(t, "in order", first, l...)
		order := append(slices.Clone(l), l[:r.IntN(len(l)+1)]...)
		r.Shuffle(len(order), func(i, k int) { order[i], order[k] = order[k], order[i] })
		checkShown(t, "put in another order", folded(t, "put", first, putAll(t, order)...), want)
	}
}

// spoiltState changes one thing, which may leave it well.
func spoiltState(r *rand.Rand, s impl.State) impl.State {
	places := slices.Clone(s.Places)
	at := r.IntN(len(places))
	p, other := &places[at], places[r.IntN(len(places))]
	switch r.IntN(12) {
	case 0, 1, 2, 3:
		p.Parent = other.Id
	case 4:
		p.Id = []impl.Id{other.Id, id(0, 122), id(0, 121), id(9, 9), id(9, 7)}[r.IntN(5)]
	case 5:
		p.Key = [][]int{nil, key(0), key(1), key(2, 1), key(1000), key(3, 0)}[r.IntN(6)]
	case 6:
		p.Name = []byte([]string{"", "br", "p", "P"}[r.IntN(4)])
	case 7:
		p.Text = []byte([]string{"", "x", "\x1f"}[r.IntN(3)])
	case 8:
		p.Kind = r.IntN(3)
	case 9:
		p.Parent = id(r.IntN(20), r.IntN(8))
	case 10:
		places[at], places[len(places)-1] = places[len(places)-1], places[at]
	case 11:
		places = slices.Delete(places, at, at+1)
	}
	return impl.State{Places: places}
}

func TestProjectOfManyStates(t *testing.T) {
	r := rand.New(rand.NewPCG(5, 10))
	well, wrong := 0, 0
	for range 2000 {
		first := firstDrawn(r)
		parts, _ := sizeOf(first)
		s, _ := impl.Fold(first, opsDrawn(r, r.IntN(40), parts))
		for range 4 {
			if len(s.Places) == 0 {
				break
			}
			s = spoiltState(r, s)
			if checkProjectAsRead(t, "spoilt", s) {
				well++
			} else {
				wrong++
			}
		}
	}
	if well < 500 || wrong < 500 {
		t.Fatalf("%d are well, %d are not: the draw tells little", well, wrong)
	}
}

// Each place in turn gets each other one as its Parent: where it then lies
// within itself, there is no tree.
func TestProjectOfEachParent(t *testing.T) {
	r := rand.New(rand.NewPCG(5, 11))
	first := shed()
	s, _ := impl.Fold(first, opsDrawn(r, 30, 10))
	rings := 0
	for at := range s.Places {
		for _, other := range s.Places {
			changed := impl.State{Places: slices.Clone(s.Places)}
			changed.Places[at].Parent = other.Id
			if !checkProjectAsRead(t, "another Parent", changed) {
				rings++
			}
		}
	}
	if rings < 50 {
		t.Fatalf("only %d have no tree", rings)
	}
}

func TestMergeLeavesArgumentsAlone(t *testing.T) {
	r := rand.New(rand.NewPCG(5, 12))
	for round := range 200 {
		plain := firstDrawn(r)
		parts, _ := sizeOf(plain)
		l := opsDrawn(r, 1+r.IntN(30), parts)
		o := l[r.IntN(len(l))]
		l = slices.DeleteFunc(l, func(x impl.Op) bool { return round%2 == 0 && x.At == o.At })
		first, list, op := roomyOf(plain), roomyOf(l), roomyOf(o)
		before := shown(wholeOf(first)) + shown(wholeOf(list)) + shown(wholeOf(op))
		if !impl.OpsOk(list) {
			t.Fatalf("OpsOk(%+v) is false", l)
		}
		put, _ := impl.Put(list, op)
		checkNewMemory(t, put, list, op)
		s, _ := impl.Fold(first, list)
		checkNewMemory(t, s, first, list)
		state := roomyOf(s)
		stateBefore := shown(wholeOf(state))
		n, _ := impl.Project(state)
		checkNewMemory(t, n, state)
		for i := range put {
			spoilOp(&put[i])
			put[i] = impl.Op{}
		}
		for i := range s.Places {
			spoilPlace(&s.Places[i])
		}
		spoilNode(&n)
		if shown(wholeOf(first))+shown(wholeOf(list))+shown(wholeOf(op)) != before || shown(wholeOf(state)) != stateBefore {
			t.Fatalf("an argument was written into: %+v, %+v, %+v", plain, l, o)
		}
	}
}

func spoilPlace(p *impl.Place) {
	spoilRow(p.Key)
	n := loneOf(*p)
	spoilNode(&n)
	*p = impl.Place{Kind: 9}
}

// What is refused is answered in new memory as well, and leaves the arguments
// alone.
func TestMergeLeavesArgumentsAloneWhereItRefuses(t *testing.T) {
	full := roomyOf(rowOfOps(impl.MaxOps))
	op := roomyOf(opOfKind(0, id(3, 3)))
	before := shown(wholeOf(full)) + shown(wholeOf(op))
	got, ok := impl.Put(full, op)
	if ok || shown(got) != shown(full) {
		t.Fatalf("Put into MaxOps: %+v, %v", got, ok)
	}
	checkNewMemory(t, got, full, op)
	for i := range got {
		spoilOp(&got[i])
	}
	if shown(wholeOf(full))+shown(wholeOf(op)) != before {
		t.Fatal("an argument was written into")
	}
	for _, l := range [][]impl.Op{{opOfKind(1, id(2, 0)), opOfKind(2, id(1, 0))}, {{}}, rowOfOps(impl.MaxOps + 1)} {
		list, first := roomyOf(l), roomyOf(page())
		before := shown(wholeOf(list)) + shown(wholeOf(first))
		impl.OpsOk(list)
		impl.Put(list, list[0])
		impl.Fold(first, list)
		impl.Fold(roomyOf(elem("br")), list)
		if shown(wholeOf(list))+shown(wholeOf(first)) != before {
			t.Fatalf("%+v was written into", l)
		}
	}
	for _, others := range [][]impl.Place{ringOf(2, 3), {place(id(0, 2), id(0, 3), key(1), text(""))}, longRing()} {
		s := roomyOf(stateOf(others...))
		before := shown(wholeOf(s))
		impl.Project(s)
		if shown(wholeOf(s)) != before {
			t.Fatalf("%+v was written into", others)
		}
	}
}

// Lists that are there several times in what is given are there several times
// in new memory.
func TestMergeOfSharedLists(t *testing.T) {
	word, row := []byte("abc"), key(1, 2, 3)
	attrs := []impl.Attr{{Name: word[:1], Val: word}, {Name: word[:2], Val: word}}
	inner := impl.Node{Name: word, Attrs: attrs, Kids: []impl.Node{{Kind: 1, Text: word}, {Kind: 1, Text: word}}}
	first := impl.Node{Name: word, Attrs: attrs, Kids: []impl.Node{inner, inner, inner}}
	var l []impl.Op
	for i := range 4 {
		l = append(l,
			impl.Op{Kind: impl.OpNew, At: id(i+1, 0), Key: row, Name: word},
			impl.Op{Kind: impl.OpNew, At: id(i+1, 1), Key: row, Elem: impl.NdText, Text: word},
			impl.Op{Kind: impl.OpMove, At: id(i+1, 2), Node: id(0, 5), Key: row[:i%3+1]},
			impl.Op{Kind: impl.OpText, At: id(i+1, 3), Node: id(0, 3+i%2), Text: word[:i%3]},
			impl.Op{Kind: impl.OpAttr, At: id(i+1, 4), Node: id(i+1, 0), Name: word, Text: word},
			impl.Op{Kind: impl.OpAttr, At: id(i+1, 5), Node: id(0, 0), Name: word[:1+i%2], Text: word[i%2:]})
	}
	s := folded(t, "shared lists", first, l...)
	n, ok := impl.Project(s)
	if !ok {
		t.Fatal(s)
	}
	checkNewMemory(t, n, s)
	put, ok := impl.Put(l[1:], l[0])
	if !ok || shown(put) != shown(l) {
		t.Fatalf("%+v, %v", put, ok)
	}
	checkNewMemory(t, put, l)
	shared := stateOf()
	for i := range 20 {
		shared.Places = append(shared.Places, impl.Place{Id: id(0, i+2), Key: row, Name: word, Attrs: attrs})
	}
	n, ok = impl.Project(shared)
	if !ok || len(n.Kids) != 20 {
		t.Fatalf("%+v, %v", n, ok)
	}
	checkNewMemory(t, n, shared)
	if string(word) != "abc" || shown(row) != "[1 2 3]" {
		t.Fatalf("%s %v were written into", word, row)
	}
}

func TestMergeDoesNotReadBehindTheLength(t *testing.T) {
	l := rowOfOps(impl.MaxOps + 5)
	checkOps(t, "cut", l[:impl.MaxOps], true)
	l[3] = impl.Op{}
	checkOps(t, "cut ahead of what may not be", l[:3], true)
	checkShown(t, "Fold", folded(t, "cut", page(), l[:3]...), folded(t, "alone", page(), rowOfOps(3)...))
	all := rowOfOps(4)
	got, ok := impl.Put(all[:2], all[3])
	if !ok || shown(got) != shown([]impl.Op{all[0], all[1], all[3]}) || shown(all) != shown(rowOfOps(4)) {
		t.Fatalf("%+v, %v; %+v", got, ok, all)
	}
	s := folded(t, "shed", shed())
	cut := impl.State{Places: s.Places[:2]}
	checkProject(t, "cut behind root and trash", cut, elem("body"), true)
	checkNoProject(t, "cut behind the root", impl.State{Places: s.Places[:1]})
	cut.Places = append(s.Places[:2:2], place(id(0, 2), rootId, key(1), text("x")))
	cut.Places[2].Key = key(1, 0)[:1]
	checkProject(t, "a key with 0 behind it", cut, elem("body", text("x")), true)
	cut.Places[2].Key = key(1)[:0]
	checkNoProject(t, "a key behind the length", cut)
}

func TestMergeOfEmptyLists(t *testing.T) {
	for _, good := range goodOps() {
		o := withEmptyLists(good)
		checkPut(t, "empty lists in place of nil", []impl.Op{o}, good, []impl.Op{good}, true)
		checkPut(t, "nil in place of empty lists", []impl.Op{good}, o, []impl.Op{good}, true)
		checkShown(t, "Fold", folded(t, "empty lists", page(), o), folded(t, "nil", page(), good))
	}
	empty := impl.Node{Name: []byte("p"), Text: []byte{}, Attrs: []impl.Attr{}, Kids: []impl.Node{}}
	checkShown(t, "Fold", folded(t, "empty lists", empty), folded(t, "nil", elem("p")))
	s := stateOf(impl.Place{Id: id(0, 2), Key: key(1), Name: []byte("p"), Text: []byte{}, Attrs: []impl.Attr{}})
	checkProject(t, "empty lists", s, elem("body", elem("p")), true)
}

func TestMergeEndsAtWhateverIsGiven(t *testing.T) {
	many := make([]impl.Op, 1<<18)
	for i := range many {
		many[i] = setText(id(i+1, 0), rootId, "")
	}
	checkNoFold(t, "very many operations", page(), many)
	if got, ok := impl.Put(many, many[0]); ok || len(got) > 0 || impl.OpsOk(many) {
		t.Fatal("very many operations")
	}
	long := move(id(1, 0), id(0, 2), rootId, make([]int, 1<<20))
	named := setAttr(id(1, 0), rootId, strings.Repeat("a", 1<<20), "")
	for _, o := range []impl.Op{long, named} {
		checkNoFold(t, "a list that is far too long", page(), []impl.Op{o})
		if got, ok := impl.Put(nil, o); ok || len(got) > 0 {
			t.Fatal("a list that is far too long")
		}
		if got, ok := impl.Put([]impl.Op{o}, opOfKind(0, id(1, 0))); ok || len(got) > 0 {
			t.Fatal("a list that is far too long")
		}
	}
	for _, n := range hugeTrees() {
		checkNoFold(t, "a tree that is far too great", n, rowOfOps(3))
		s := stateOf(place(id(0, 2), rootId, key(1), n))
		if got, ok := impl.Project(s); ok != shaped(loneOf(s.Places[2])) || !ok && shown(got) != shown(impl.Node{}) {
			t.Fatalf("Project of such a node without its Kids is %v", ok)
		}
	}
	wide := stateOf(texts(1, 1<<18, rootId, 1)...)
	if n, ok := impl.Project(wide); ok || shown(n) != shown(impl.Node{}) {
		t.Fatal("very many places")
	}
	deep := stateOf(chain(2, 120, rootId)...)
	for i := range 150 {
		deep.Places = append(deep.Places, place(id(i+1, 0), deep.Places[len(deep.Places)-1].Id, key(1), elem("p")))
	}
	checkProject(t, "all places within one another", deep, elem("body", nested(elem("d"), impl.MaxDeep-1)), true)
}

func TestMergeCallsKeepNothing(t *testing.T) {
	l := []impl.Op{newElem(id(1, 0), id(0, 2), key(1), "s"), setText(id(2, 0), id(0, 3), "y"), move(id(3, 0), id(0, 4), trashId, key(1))}
	for range 3 {
		s, _ := impl.Fold(shed(), l)
		n, _ := impl.Project(s)
		checkShown(t, "again", string(impl.Markup(n)), `<body><p c="1" e="2">y<s></s></p>z<hr><ul></ul></body>`)
		put, _ := impl.Put(l[:2], l[2])
		checkShown(t, "again", put, l)
		for i := range put {
			spoilOp(&put[i])
		}
		for i := range s.Places {
			spoilPlace(&s.Places[i])
		}
		spoilNode(&n)
		checkShown(t, "root and trash", folded(t, "alone", elem("p")), impl.State{Places: []impl.Place{place(rootId, rootId, nil, elem("p")), trash()}})
	}
}
