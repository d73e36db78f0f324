package tests

import (
	"fmt"
	"math"
	"math/rand/v2"
	"slices"
	"strings"
	"testing"

	"loop.example/g00353/impl"
)

func TestReplicaConstants(t *testing.T) {
	if impl.EdNew != 0 || impl.EdMove != 1 || impl.EdDrop != 2 || impl.EdText != 3 || impl.EdAttr != 4 || impl.EdUndo != 5 {
		t.Fatal("a kind is not as the document has it")
	}
	codes := []int{impl.EdWell, impl.EdForm, impl.EdNone, impl.EdLoop, impl.EdRange, impl.EdKey, impl.EdFull, impl.EdClock}
	checkShown(t, "the codes", codes, key(0, 1, 2, 3, 4, 5, 6, 7))
}

func edNew(parent impl.Id, i int, name string) impl.Edit {
	return impl.Edit{Kind: impl.EdNew, Node: parent, I: i, Elem: impl.NdElem, Name: []byte(name)}
}

func edNewText(parent impl.Id, i int, s string) impl.Edit {
	return impl.Edit{Kind: impl.EdNew, Node: parent, I: i, Elem: impl.NdText, Text: []byte(s)}
}

func edMove(node, to impl.Id, i int) impl.Edit {
	return impl.Edit{Kind: impl.EdMove, Node: node, To: to, I: i}
}

func edDrop(node impl.Id) impl.Edit { return impl.Edit{Kind: impl.EdDrop, Node: node} }

func edText(node impl.Id, s string) impl.Edit {
	return impl.Edit{Kind: impl.EdText, Node: node, Text: []byte(s)}
}

func edAttr(node impl.Id, name, s string) impl.Edit {
	return impl.Edit{Kind: impl.EdAttr, Node: node, Name: []byte(name), Text: []byte(s)}
}

func edNoAttr(node impl.Id, name string) impl.Edit {
	return impl.Edit{Kind: impl.EdAttr, Node: node, Name: []byte(name), Gone: true}
}

func edUndo() impl.Edit { return impl.Edit{Kind: impl.EdUndo} }

// holding is a replica that has these operations, which are in order; its clock
// is at the last one's.
func holding(rep int, first impl.Node, l ...impl.Op) impl.Replica {
	r := impl.Replica{Id: rep, First: first, Ops: l}
	if len(l) > 0 {
		r.Clock = l[len(l)-1].At.N
	}
	return r
}

func withUndone(r impl.Replica, stamps ...impl.Id) impl.Replica {
	r.Undone = stamps
	return r
}

func withClock(r impl.Replica, clock int) impl.Replica {
	r.Clock = clock
	return r
}

func TestStart(t *testing.T) {
	for _, n := range []impl.Node{page(), shed(), elem("p"), elem("trash"), elem("brx"), withAttrs(elem("p"), "a", "", "b", "", "c", "", "d", "v"),
		elem("p", copies(text("x"), impl.MaxParts-1)...), nested(text("x"), impl.MaxDeep)} {
		for _, rep := range []int{0, 1, impl.MaxReps - 1} {
			for _, first := range []impl.Node{n, roomyOf(n)} {
				r, ok := impl.Start(rep, first)
				if !ok || shown(r) != shown(impl.Replica{Id: rep, First: n}) || !impl.ReplicaOk(r) {
					t.Fatalf("Start(%d, %+v) = %+v, %v", rep, n, r, ok)
				}
				checkNewMemory(t, r, first)
			}
		}
		for _, rep := range []int{-1, impl.MaxReps, impl.MaxReps + 1, math.MinInt, math.MaxInt, 1 << 32} {
			checkNoStart(t, "an Id that may not be", rep, n)
		}
	}
}

func checkNoStart(t *testing.T, what string, rep int, first impl.Node) {
	t.Helper()
	if r, ok := impl.Start(rep, first); ok || shown(r) != shown(impl.Replica{}) {
		t.Fatalf("%s: Start is %+v, %v; want nothing", what, r, ok)
	}
}

// wrongFirsts may not be first trees, each for one reason.
func wrongFirsts() []impl.Node {
	return append(wrongTrees(), elem("br"), elem("hr"), withAttrs(elem("hr"), "a", "v"), elem("br", text("x")))
}

func TestStartOfWhatMayNotBe(t *testing.T) {
	for _, n := range append(wrongFirsts(), hugeTrees()...) {
		checkNoStart(t, "a first tree that may not be", 0, n)
		checkNoStart(t, "neither may be", -1, n)
	}
}

// mayBeReplica is read off the document in another way than the program's: by
// stamps as texts.
func mayBeReplica(r impl.Replica) bool {
	_, folds := foldAs(r.First, r.Ops)
	top := spelt(key(r.Clock)) + "~"
	var stamps []string
	for _, at := range r.Undone {
		if at.Rep != r.Id || at.N <= 0 {
			return false
		}
		stamps = append(stamps, spelt(key(at.N, at.Rep)))
	}
	rising := slices.Equal(slices.Compact(slices.Sorted(slices.Values(stamps))), stamps)
	for _, o := range r.Ops {
		stamps = append(stamps, stampOf(o))
	}
	within := !slices.ContainsFunc(stamps, func(s string) bool { return s > top })
	return folds && rising && within && strings.Contains("0 1 2 3 4 5 6 7", fmt.Sprint(r.Id)) &&
		r.Clock >= 0 && r.Clock <= 1000000 && len(r.Undone) <= 150
}

func checkReplica(t *testing.T, what string, r impl.Replica, want bool) {
	t.Helper()
	if got := impl.ReplicaOk(r); got != want {
		t.Fatalf("%s: ReplicaOk(%+v) is %v", what, r, got)
	}
	if got := impl.ReplicaOk(roomyOf(r)); got != want {
		t.Fatalf("%s, with room behind its lists: ReplicaOk(%+v) is %v", what, r, got)
	}
	if got := mayBeReplica(r); got != want {
		t.Fatalf("%s: mayBeReplica(%+v) is %v", what, r, got)
	}
	if !want {
		checkNothingOf(t, what, r)
	}
}

// checkNothingOf wants all that takes a replica to refuse this one.
func checkNothingOf(t *testing.T, what string, r impl.Replica) {
	t.Helper()
	for _, e := range goodEdits() {
		if got, o, code := impl.Apply(r, e); code != impl.EdForm || shown(got) != shown(impl.Replica{}) || shown(o) != shown(impl.Op{}) {
			t.Fatalf("%s: Apply(%+v) = %+v, %+v, %d", what, e, got, o, code)
		}
	}
	for _, o := range []impl.Op{opOfKind(0, id(1, 0)), opOfKind(3, id(impl.MaxClock, 7)), {}} {
		if got, ok := impl.Hear(r, o); ok || shown(got) != shown(impl.Replica{}) {
			t.Fatalf("%s: Hear(%+v) = %+v, %v", what, o, got, ok)
		}
	}
	if b, ok := impl.Doc(r); ok || len(b) != 0 {
		t.Fatalf("%s: Doc = %q, %v", what, b, ok)
	}
}

// goodEdits are of each kind, at the ends of what an edit may have.
func goodEdits() []impl.Edit {
	long := strings.Repeat("~", impl.MaxText)
	return []impl.Edit{
		edNew(rootId, 0, "p"), edNew(id(impl.MaxClock, impl.MaxReps-1), math.MaxInt, "abcdefgh"), edNew(id(0, impl.MaxParts+1), math.MinInt, "br"),
		edNewText(rootId, -1, ""), edNewText(id(1, 0), 3, long),
		edMove(rootId, rootId, 0), edMove(id(impl.MaxClock, 7), id(0, impl.MaxParts+1), math.MinInt), edMove(id(0, impl.MaxParts+1), id(1, 7), math.MaxInt),
		edDrop(rootId), edDrop(id(0, impl.MaxParts+1)), edDrop(id(impl.MaxClock, 7)),
		edText(rootId, ""), edText(id(0, 8), long), edText(id(1, 7), " "),
		edAttr(rootId, "a", ""), edAttr(id(0, impl.MaxParts+1), "abcdefgh", long), edNoAttr(rootId, "z9"), edNoAttr(id(impl.MaxClock, 0), "br"),
		edUndo(),
	}
}

func TestReplicaOkClock(t *testing.T) {
	for clock, want := range map[int]bool{-1: false, 0: true, 1: true, impl.MaxClock - 1: true, impl.MaxClock: true, impl.MaxClock + 1: false,
		math.MinInt: false, math.MaxInt: false, impl.MaxNum: false} {
		checkReplica(t, fmt.Sprint("Clock ", clock), withClock(holding(2, shed()), clock), want)
	}
}

func TestReplicaOkIdAndFirst(t *testing.T) {
	for rep, want := range map[int]bool{-1: false, 0: true, 3: true, impl.MaxReps - 1: true, impl.MaxReps: false, math.MinInt: false, math.MaxInt: false, 1 << 32: false} {
		checkReplica(t, fmt.Sprint("Id ", rep), holding(rep, shed()), want)
		checkReplica(t, fmt.Sprint("Id ", rep), holding(rep, shed(), rowOfOps(5)...), want)
	}
	for _, n := range wrongFirsts() {
		checkReplica(t, "First may not be", holding(0, n), false)
		checkReplica(t, "First may not be", holding(0, n, rowOfOps(5)...), false)
	}
	for _, n := range hugeTrees() {
		if impl.ReplicaOk(holding(0, n)) {
			t.Fatal("First may not be")
		}
		checkNothingOf(t, "First may not be", holding(0, n))
	}
	for _, n := range []impl.Node{page(), elem("p"), elem("p", copies(text("x"), impl.MaxParts-1)...), nested(text("x"), impl.MaxDeep)} {
		checkReplica(t, "First at the limits", holding(0, n), true)
	}
	checkReplica(t, "the zero value", impl.Replica{}, false)
	lost := holding(7, shed())
	lost.Lost = true
	checkReplica(t, "Lost", lost, true)
}

func TestReplicaOkOps(t *testing.T) {
	for _, count := range []int{0, 1, 2, impl.MaxOps - 1, impl.MaxOps} {
		checkReplica(t, "that many", holding(1, shed(), rowOfOps(count)...), true)
	}
	checkReplica(t, "too many", holding(1, shed(), rowOfOps(impl.MaxOps+1)...), false)
	for at, wrong := range wrongOps(id(4, 1)) {
		checkReplica(t, fmt.Sprint("an operation that may not be ", at), holding(1, shed(), wrong), false)
	}
	a, b := opOfKind(0, id(3, 1)), opOfKind(1, id(3, 2))
	checkReplica(t, "in order", holding(1, shed(), a, b), true)
	checkReplica(t, "in the wrong order", holding(1, shed(), b, a), false)
	checkReplica(t, "one stamp twice", holding(1, shed(), a, a), false)
	for _, n := range []int{1, 5, impl.MaxClock} {
		for rep := range impl.MaxReps {
			r := holding(1, shed(), opOfKind(2, id(n, rep)))
			checkReplica(t, "a stamp at Clock", r, true)
			checkReplica(t, "a stamp above Clock", withClock(r, n-1), false)
		}
	}
	l := rowOfOps(20)
	top := l[19].At.N
	for clock, want := range map[int]bool{0: false, 1: false, top - 2: false, top - 1: false, top: true, top + 1: true} {
		checkReplica(t, fmt.Sprint("Clock ", clock, " of ", top), withClock(holding(1, shed(), l...), clock), want)
	}
}

// stamps are those of one replica, from N 1 on.
func stamps(count, rep int) []impl.Id {
	var out []impl.Id
	for i := range count {
		out = append(out, id(i+1, rep))
	}
	return out
}

func TestReplicaOkUndone(t *testing.T) {
	r := withClock(holding(3, shed()), 500)
	for _, count := range []int{0, 1, 2, impl.MaxOps - 2, impl.MaxOps - 1, impl.MaxOps} {
		checkReplica(t, "that many", withUndone(r, stamps(count, 3)...), true)
	}
	checkReplica(t, "too many", withUndone(r, stamps(impl.MaxOps+1, 3)...), false)
	checkReplica(t, "far too many", withUndone(r, stamps(400, 3)...), false)
	for n, want := range map[int]bool{-1: false, 0: false, 1: true, 499: true, 500: true, 501: false, math.MinInt: false, math.MaxInt: false} {
		checkReplica(t, fmt.Sprint("alone, N ", n), withUndone(r, id(n, 3)), want)
		checkReplica(t, fmt.Sprint("first, N ", n), withUndone(r, id(n, 3), id(500, 3)), want && n < 500)
		checkReplica(t, fmt.Sprint("last, N ", n), withUndone(r, id(1, 3), id(n, 3)), want && n > 1)
	}
	for _, rep := range []int{-1, 0, 2, 4, 7, 8, math.MaxInt} {
		checkReplica(t, fmt.Sprint("Rep ", rep), withUndone(r, id(5, rep)), false)
		checkReplica(t, fmt.Sprint("Rep ", rep, " behind others"), withUndone(r, id(4, 3), id(5, 3), id(6, rep)), false)
		checkReplica(t, fmt.Sprint("Rep ", rep, " ahead of others"), withUndone(r, id(4, rep), id(5, 3), id(6, 3)), false)
	}
	checkReplica(t, "in the wrong order", withUndone(r, id(6, 3), id(5, 3)), false)
	checkReplica(t, "the last two in the wrong order", withUndone(r, id(1, 3), id(6, 3), id(5, 3)), false)
	checkReplica(t, "twice the same", withUndone(r, id(5, 3), id(5, 3)), false)
	checkReplica(t, "twice the same, not side by side", withUndone(r, id(5, 3), id(6, 3), id(5, 3)), false)
	checkReplica(t, "with room between", withUndone(r, id(5, 3), id(7, 3), id(500, 3)), true)
	checkReplica(t, "no clock", withUndone(holding(3, shed()), id(1, 3)), false)
	checkReplica(t, "of another Id", withUndone(withClock(holding(0, shed()), 9), id(1, 3)), false)
}

// mayBeEdit is read off the document in another way than the program's: an edit
// is as the operation that it becomes.
func mayBeEdit(e impl.Edit) bool {
	o := impl.Op{At: id(1, 0), Node: e.Node, Elem: e.Elem, Name: e.Name, Text: e.Text, Gone: e.Gone}
	switch e.Kind {
	case 0:
		o.Node, o.Parent, o.Key = impl.Id{}, e.Node, key(1)
	case 1:
		o.Kind, o.Parent, o.Key = 1, e.To, key(1)
	case 2:
		o.Kind, o.Parent, o.Key = 1, trashId, key(1)
	case 3, 4:
		o.Kind = e.Kind - 1
	case 5:
		return shown(e) == shown(impl.Edit{Kind: 5})
	default:
		return false
	}
	return mayBeOp(o) && (e.To == impl.Id{} || e.Kind == 1) && (e.I == 0 || e.Kind < 2)
}

// site is a document seen from above.
type site struct {
	places map[impl.Id]impl.Place
	kids   map[impl.Id][]impl.Place
}

func siteOf(first impl.Node, l []impl.Op) site {
	s, _ := foldAs(first, l)
	kids, _ := kidsAs(s)
	out := site{map[impl.Id]impl.Place{}, kids}
	for _, p := range s.Places {
		out.places[p.Id] = p
	}
	return out
}

// below are a place and all that is within it.
func (s site) below(top impl.Id) map[impl.Id]bool {
	out := map[impl.Id]bool{}
	if _, there := s.places[top]; there {
		out[top] = true
	}
	for _, kid := range s.kids[top] {
		for x := range s.below(kid.Id) {
			out[x] = true
		}
	}
	return out
}

func (s site) takes(x impl.Id) bool {
	p, there := s.places[x]
	return there && p.Kind == 0 && !isVoid(p.Name)
}

// applyAs is read off the document in another way than the program's: all codes
// are asked, and the least of those that apply is told, since they are numbered
// in the order in which they count.
func applyAs(r impl.Replica, e impl.Edit) (impl.Replica, impl.Op, int) {
	if !mayBeReplica(r) || !mayBeEdit(e) {
		return impl.Replica{}, impl.Op{}, 1
	}
	codes := [8]bool{6: len(r.Ops) >= 150 || len(r.Undone) >= 149, 7: r.Clock >= 1000000}
	var o, last impl.Op
	if e.Kind == 5 {
		o, last = undoAs(r, &codes)
	} else {
		o = editAs(siteOf(r.First, r.Ops), e, &codes)
	}
	if code := slices.Index(codes[:], true); code > 0 {
		return r, impl.Op{}, code
	}
	o.At = id(r.Clock+1, r.Id)
	r.Ops, r.Clock = append(slices.Clone(r.Ops), o), r.Clock+1
	if e.Kind == 5 {
		r.Undone = append(slices.Clone(r.Undone), last.At, o.At)
		slices.SortFunc(r.Undone, func(a, b impl.Id) int { return a.N - b.N })
	}
	return r, o, 0
}

func editAs(s site, e impl.Edit, codes *[8]bool) impl.Op {
	there := s.below(rootId)
	codes[2] = !there[e.Node] || e.Node == rootId && (e.Kind == 1 || e.Kind == 2)
	switch e.Kind {
	case 0:
		codes[2] = codes[2] || !s.takes(e.Node)
		return impl.Op{Parent: e.Node, Key: s.keyAs(e.Node, e.Node, e.I, codes), Elem: e.Elem, Name: e.Name, Text: e.Text}
	case 1:
		codes[2] = codes[2] || !there[e.To] || !s.takes(e.To)
		codes[3] = s.below(e.Node)[e.To]
		return impl.Op{Kind: 1, Node: e.Node, Parent: e.To, Key: s.keyAs(e.To, e.Node, e.I, codes)}
	case 2:
		return impl.Op{Kind: 1, Node: e.Node, Parent: trashId, Key: key(1)}
	case 3:
		codes[2] = codes[2] || s.places[e.Node].Kind != 1
		return impl.Op{Kind: 2, Node: e.Node, Text: e.Text}
	}
	codes[2] = codes[2] || s.places[e.Node].Kind != 0
	return impl.Op{Kind: 3, Node: e.Node, Name: e.Name, Text: e.Text, Gone: e.Gone}
}

// keyAs cuts the kids in two at i, and looks at the ends of both halves.
func (s site) keyAs(parent, aside impl.Id, i int, codes *[8]bool) []int {
	var rows [][]int
	for _, kid := range s.kids[parent] {
		if kid.Id != aside {
			rows = append(rows, kid.Key)
		}
	}
	if i < 0 || i > len(rows) {
		codes[4] = true
		return nil
	}
	ends := append(append([][]int{nil}, rows[:i]...), append(slices.Clone(rows[i:]), nil)...)
	row, ok := betweenOf(ends[i], ends[i+1])
	codes[5] = !ok
	return row
}

func undoAs(r impl.Replica, codes *[8]bool) (o, last impl.Op) {
	var others []impl.Op
	for _, x := range r.Ops {
		if x.At.Rep == r.Id && !slices.Contains(r.Undone, x.At) && (last.At == impl.Id{} || impl.Less(last.At, x.At)) {
			last = x
		}
	}
	for _, x := range r.Ops {
		if x.At != last.At {
			others = append(others, x)
		}
	}
	if last.At == (impl.Id{}) {
		codes[2] = true
		return o, last
	}
	if last.Kind == 0 {
		return impl.Op{Kind: 1, Node: last.At, Parent: trashId, Key: key(1)}, last
	}
	p, there := siteOf(r.First, others).places[last.Node]
	codes[2] = !there || last.Kind != 3 && (last.Node == rootId || last.Node == trashId)
	o = impl.Op{Kind: last.Kind, Node: last.Node}
	switch last.Kind {
	case 1:
		o.Parent, o.Key = p.Parent, p.Key
	case 2:
		o.Text = p.Text
	case 3:
		o.Name, o.Gone = last.Name, true
		for _, a := range p.Attrs {
			if string(a.Name) == string(last.Name) {
				o.Text, o.Gone = a.Val, false
			}
		}
	}
	return o, last
}

type answer struct {
	r impl.Replica
	o impl.Op
}

// applied tells what Apply does, held against applyAs and against what the
// promise says of it.
func applied(t *testing.T, what string, r impl.Replica, e impl.Edit) (impl.Replica, impl.Op, int) {
	t.Helper()
	want, wantOp, wantCode := applyAs(r, e)
	for _, roomyToo := range []bool{false, true} {
		rep, edit := r, e
		if roomyToo {
			rep, edit = roomyOf(r), roomyOf(e)
		}
		got, o, code := impl.Apply(rep, edit)
		if code != wantCode || shown(o) != shown(wantOp) || shown(got) != shown(want) {
			t.Fatalf("%s: Apply(%+v, %+v) = %+v, %+v, %d; want %+v, %+v, %d", what, r, e, got, o, code, want, wantOp, wantCode)
		}
		checkNewMemory(t, answer{got, o}, rep, edit)
		want, wantOp = got, o
	}
	if wantCode == impl.EdWell {
		checkWell(t, what, r, e, want, wantOp)
	}
	return want, wantOp, wantCode
}

// checkWell holds an edit against promise 6.
func checkWell(t *testing.T, what string, r impl.Replica, e impl.Edit, got impl.Replica, o impl.Op) {
	t.Helper()
	if !impl.ReplicaOk(got) || !impl.OpOk(o) || o.At != id(r.Clock+1, r.Id) || got.Clock != o.At.N {
		t.Fatalf("%s: %+v, %+v are not well", what, got, o)
	}
	for _, old := range r.Ops {
		if !impl.Less(old.At, o.At) {
			t.Fatalf("%s: %v is not above %v", what, o.At, old.At)
		}
	}
	s := siteOf(got.First, got.Ops)
	switch e.Kind {
	case impl.EdNew:
		checkStands(t, what, s, e.Node, e.I, o.At)
	case impl.EdMove:
		checkStands(t, what, s, e.To, e.I, e.Node)
	case impl.EdDrop:
		if s.below(rootId)[e.Node] || !s.below(trashId)[e.Node] {
			t.Fatalf("%s: %v is there", what, e.Node)
		}
	}
	if e.Kind != impl.EdUndo {
		checkUndoneAtOnce(t, what, r, got)
	}
}

func checkStands(t *testing.T, what string, s site, parent impl.Id, i int, node impl.Id) {
	t.Helper()
	if len(s.kids[parent]) <= i || s.kids[parent][i].Id != node || !s.below(rootId)[node] {
		t.Fatalf("%s: %v is not at %d of %+v", what, node, i, s.kids[parent])
	}
}

func checkUndoneAtOnce(t *testing.T, what string, before, done impl.Replica) {
	t.Helper()
	back, _, code := impl.Apply(done, edUndo())
	if len(done.Ops) == impl.MaxOps {
		checkShown(t, what+", undone", code, impl.EdFull)
		return
	}
	if done.Clock == impl.MaxClock {
		checkShown(t, what+", undone", code, impl.EdClock)
		return
	}
	checkShown(t, what+", undone", code, impl.EdWell)
	checkShown(t, what+", undone: the document", docOf(t, back), docOf(t, before))
}

// docOf is the document as text, held against what is read off it.
func docOf(t *testing.T, r impl.Replica) string {
	t.Helper()
	b, ok := impl.Doc(r)
	if !ok {
		t.Fatalf("Doc(%+v) is false", r)
	}
	s, _ := foldAs(r.First, r.Ops)
	n, _ := projectAs(s)
	checkShown(t, "Doc", string(b), markedUp(n))
	return string(b)
}

func markedUp(n impl.Node) string {
	plain := strings.NewReplacer("&", "&amp;", "<", "&lt;")
	if n.Kind == impl.NdText {
		return plain.Replace(string(n.Text))
	}
	out := "<" + string(n.Name)
	for _, a := range n.Attrs {
		out += " " + string(a.Name) + `="` + strings.ReplaceAll(plain.Replace(string(a.Val)), `"`, "&quot;") + `"`
	}
	out += ">"
	for _, kid := range n.Kids {
		out += markedUp(kid)
	}
	if !isVoid(n.Name) {
		out += "</" + string(n.Name) + ">"
	}
	return out
}

func checkCode(t *testing.T, what string, r impl.Replica, e impl.Edit, want int) {
	t.Helper()
	if _, _, code := applied(t, what, r, e); code != want {
		t.Fatalf("%s: Apply(%+v) is %d; want %d", what, e, code, want)
	}
}

// checkDone wants the edit to be this operation, which needs no stamp.
func checkDone(t *testing.T, what string, r impl.Replica, e impl.Edit, want impl.Op) impl.Replica {
	t.Helper()
	got, o, code := applied(t, what, r, e)
	want.At = id(r.Clock+1, r.Id)
	if code != impl.EdWell || shown(o) != shown(want) {
		t.Fatalf("%s: Apply(%+v) = %+v, %d; want %+v", what, e, o, code, want)
	}
	return got
}

// done does edits one behind the other; all must be well.
func done(t *testing.T, r impl.Replica, edits ...impl.Edit) impl.Replica {
	t.Helper()
	for i, e := range edits {
		got, _, code := applied(t, fmt.Sprint("edit ", i), r, e)
		if code != impl.EdWell {
			t.Fatalf("edit %d, %+v, is %d", i, e, code)
		}
		r = got
	}
	return r
}

var noStamp = impl.Id{}

func TestApplyOfWhatMayNotBe(t *testing.T) {
	r := holding(2, shed(), opOfKind(0, id(1, 2)))
	for _, e := range goodEdits() {
		if _, _, code := applied(t, "may be", r, e); code == impl.EdForm {
			t.Fatalf("%+v may be", e)
		}
	}
	long := strings.Repeat("x", impl.MaxText+1)
	for _, e := range []impl.Edit{
		{Kind: impl.EdNew}, {Kind: impl.EdText, Node: id(0, 122)}, {Kind: impl.EdAttr},
		{Kind: -1}, {Kind: 6}, {Kind: math.MinInt}, {Kind: math.MaxInt}, {Kind: 1 << 32}, {Kind: -1, Name: []byte("p")}, {Kind: 6, Name: []byte("p")},
		edNew(rootId, 0, ""), edNew(rootId, 0, "P"), edNew(rootId, 0, "abcdefghi"), edNew(id(0, -1), 0, "p"), edNew(id(0, 122), 0, "p"),
		edNew(id(1, 8), 0, "p"), edNew(id(1, -1), 0, "p"), edNew(id(impl.MaxClock+1, 0), 0, "p"), edNew(id(-1, 0), 0, "p"),
		edNewText(rootId, 0, long), edNewText(rootId, 0, "\x1f"), edNewText(rootId, 0, "\x7f"), edNewText(id(0, 122), 0, "x"),
		edMove(id(0, 122), rootId, 0), edMove(id(0, 2), id(0, 122), 0), edMove(id(0, 2), id(1, 8), 0), edMove(id(impl.MaxClock+1, 0), rootId, 0), edMove(id(0, -1), rootId, 0),
		edDrop(id(0, 122)), edDrop(id(1, 8)), edDrop(id(-1, 0)), edDrop(id(impl.MaxClock+1, 0)),
		edText(id(0, 8), long), edText(id(0, 8), "a\n"), edText(id(0, 8), "\xff"), edText(id(0, 122), "x"), edText(id(1, 8), "x"),
		edAttr(id(0, 2), "", "v"), edAttr(id(0, 2), "A", "v"), edAttr(id(0, 2), "abcdefghi", "v"), edAttr(id(0, 2), "a", long), edAttr(id(0, 2), "a", "\x00"),
		edAttr(id(0, 122), "a", "v"), edNoAttr(id(0, 2), ""), edNoAttr(id(0, 2), "1"), edNoAttr(id(1, 8), "a"),
	} {
		checkCode(t, "an edit that may not be", r, e, impl.EdForm)
	}
	for _, elem := range []int{-1, 2, math.MinInt, math.MaxInt} {
		e := edNew(rootId, 0, "p")
		e.Elem = elem
		checkCode(t, "Elem is none", r, e, impl.EdForm)
		e = edNewText(rootId, 0, "x")
		e.Elem = elem
		checkCode(t, "Elem is none", r, e, impl.EdForm)
	}
}

// Each kind gets each field that it must not have, all else being as it must.
func TestApplyOfFieldsThatMustBeZero(t *testing.T) {
	r := holding(2, shed(), opOfKind(0, id(1, 2)))
	set := map[string]func(*impl.Edit){
		"Node": func(e *impl.Edit) { e.Node = id(0, 2) },
		"To":   func(e *impl.Edit) { e.To = id(0, 2) },
		"I":    func(e *impl.Edit) { e.I = 1 },
		"-I":   func(e *impl.Edit) { e.I = -1 },
		"Elem": func(e *impl.Edit) { e.Elem = impl.NdText },
		"Name": func(e *impl.Edit) { e.Name = []byte("p") },
		"Text": func(e *impl.Edit) { e.Text = []byte("x") },
		"Gone": func(e *impl.Edit) { e.Gone = true },
	}
	for _, row := range []struct {
		what string
		edit impl.Edit
		bars string
	}{
		{"EdNew, an element", edNew(rootId, 0, "p"), "To Elem Text Gone"},
		{"EdNew, a text", edNewText(rootId, 0, "x"), "To Name Gone"},
		{"EdMove", edMove(id(0, 4), rootId, 0), "Elem Name Text Gone"},
		{"EdDrop", edDrop(id(0, 4)), "To I -I Elem Name Text Gone"},
		{"EdText", edText(id(0, 8), "x"), "To I -I Elem Name Gone"},
		{"EdAttr", edAttr(id(0, 2), "a", "v"), "To I -I Elem Gone"},
		{"EdAttr, Gone", edNoAttr(id(0, 2), "a"), "To I -I Elem Text"},
		{"EdUndo", edUndo(), "Node To I -I Elem Name Text Gone"},
	} {
		checkCode(t, row.what, r, row.edit, impl.EdWell)
		for field, do := range set {
			e := row.edit
			do(&e)
			barred := slices.Contains(strings.Fields(row.bars), field)
			_, _, code := applied(t, row.what+" with "+field, r, e)
			if (code == impl.EdForm) != barred {
				t.Fatalf("%s with %s is %d", row.what, field, code)
			}
		}
	}
	e := edText(id(0, 8), "")
	checkCode(t, "EdText, an empty one", r, e, impl.EdWell)
	e = edAttr(id(0, 2), "a", "")
	checkCode(t, "EdAttr, an empty one", r, e, impl.EdWell)
}

// editChanges sets one field each, to all that lies at an edge.
func editChanges() []func(*impl.Edit) {
	var out []func(*impl.Edit)
	for _, n := range append(edgeNumbers(), 3, 4, 5, -2) {
		out = append(out, func(e *impl.Edit) { e.Kind = n }, func(e *impl.Edit) { e.Elem = n }, func(e *impl.Edit) { e.I = n })
	}
	for _, x := range edgeIds() {
		out = append(out, func(e *impl.Edit) { e.Node = x }, func(e *impl.Edit) { e.To = x })
	}
	for _, s := range []string{"", "a", "z", "a9", "br", "abcdefgh", "abcdefghi", "A", "1a", " ", "a b", "\x1f", "\x7f", "\xff",
		strings.Repeat("x", 30), strings.Repeat("x", 31), strings.Repeat("x", 200)} {
		out = append(out, func(e *impl.Edit) { e.Name = []byte(s) }, func(e *impl.Edit) { e.Text = []byte(s) })
	}
	return append(out, func(e *impl.Edit) { e.Gone = true }, func(e *impl.Edit) { e.Gone = false })
}

func TestApplyOfChangedEdits(t *testing.T) {
	r := rand.New(rand.NewPCG(6, 1))
	rep := holding(2, elem("p", text("x")))
	goods, changes := goodEdits(), editChanges()
	may, mayNot := 0, 0
	check := func(e impl.Edit) {
		_, _, code := impl.Apply(rep, e)
		if (code != impl.EdForm) != mayBeEdit(e) {
			t.Fatalf("Apply(%+v) is %d", e, code)
		}
		if code == impl.EdForm {
			mayNot++
		} else {
			may++
		}
	}
	for _, good := range goods {
		for _, do := range changes {
			e := good
			do(&e)
			check(e)
			for range 10 {
				other := e
				changes[r.IntN(len(changes))](&other)
				check(other)
			}
		}
	}
	if may < 2000 || mayNot < 20000 {
		t.Fatalf("%d may be, %d may not", may, mayNot)
	}
}

func TestApplyNew(t *testing.T) {
	r := holding(5, shed())
	at := noStamp
	for _, row := range []struct {
		parent impl.Id
		i      int
		key    []int
		doc    string
	}{
		{rootId, 0, key(0, 500), `<body><s></s><p c="1" e="2">a<b><i><u></u></i><br></b></p>z<hr><ul></ul></body>`},
		{rootId, 1, key(1, 500), `<body><p c="1" e="2">a<b><i><u></u></i><br></b></p><s></s>z<hr><ul></ul></body>`},
		{rootId, 2, key(2, 500), `<body><p c="1" e="2">a<b><i><u></u></i><br></b></p>z<s></s><hr><ul></ul></body>`},
		{rootId, 3, key(3, 500), `<body><p c="1" e="2">a<b><i><u></u></i><br></b></p>z<hr><s></s><ul></ul></body>`},
		{rootId, 4, key(502), `<body><p c="1" e="2">a<b><i><u></u></i><br></b></p>z<hr><ul></ul><s></s></body>`},
		{id(0, 2), 1, key(1, 500), `<body><p c="1" e="2">a<s></s><b><i><u></u></i><br></b></p>z<hr><ul></ul></body>`},
		{id(0, 4), 2, key(501), `<body><p c="1" e="2">a<b><i><u></u></i><br><s></s></b></p>z<hr><ul></ul></body>`},
		{id(0, 6), 0, key(500), `<body><p c="1" e="2">a<b><i><u><s></s></u></i><br></b></p>z<hr><ul></ul></body>`},
		{id(0, 10), 0, key(500), `<body><p c="1" e="2">a<b><i><u></u></i><br></b></p>z<hr><ul><s></s></ul></body>`},
	} {
		got := checkDone(t, "an element", r, edNew(row.parent, row.i, "s"), newElem(at, row.parent, row.key, "s"))
		checkShown(t, "an element", docOf(t, got), row.doc)
		got = checkDone(t, "a text", r, edNewText(row.parent, row.i, "&"), newText(at, row.parent, row.key, "&"))
		checkShown(t, "a text", docOf(t, got), strings.Replace(row.doc, "<s></s>", "&amp;", 1))
		checkDone(t, "a void one", r, edNew(row.parent, row.i, "br"), newElem(at, row.parent, row.key, "br"))
		checkDone(t, "an empty text", r, edNewText(row.parent, row.i, ""), newText(at, row.parent, row.key, ""))
	}
	made := done(t, r, edNew(id(0, 10), 0, "li"))
	checkDone(t, "in what was made", made, edNewText(id(1, 5), 0, "x"), newText(at, id(1, 5), key(500), "x"))
	checkDone(t, "ahead of what was made", made, edNewText(id(0, 10), 0, "x"), newText(at, id(0, 10), key(250), "x"))
	checkDone(t, "behind what was made", made, edNewText(id(0, 10), 1, "x"), newText(at, id(0, 10), key(750), "x"))
}

func TestApplyNewRefused(t *testing.T) {
	r := holding(5, shed(), newElem(id(1, 0), id(0, 10), key(5), "hr"), newText(id(2, 0), rootId, key(9), "t"), newElem(id(3, 0), trashId, key(1), "p"))
	for what, node := range map[string]impl.Id{"a text": id(0, 3), "another text": id(0, 8), "br": id(0, 7), "hr": id(0, 9), "hr that was made": id(1, 0),
		"a text that was made": id(2, 0), "what was made in the trash": id(3, 0), "the trash": trashId, "no place": id(0, 11), "no stamp": id(1, 1),
		"no place at the limit": id(0, 121), "the stamp to come": id(4, 5)} {
		for _, i := range []int{0, -1, 7} {
			checkCode(t, "in "+what, r, edNew(node, i, "p"), impl.EdNone)
			checkCode(t, "a text in "+what, r, edNewText(node, i, "x"), impl.EdNone)
		}
	}
	for parent, count := range map[impl.Id]int{rootId: 5, id(0, 2): 2, id(0, 4): 2, id(0, 5): 1, id(0, 6): 0, id(0, 10): 1} {
		for _, i := range []int{-1, -2, count + 1, count + 2, 1 << 32, math.MinInt, math.MaxInt} {
			checkCode(t, "out of range", r, edNew(parent, i, "p"), impl.EdRange)
		}
		for i := range count + 1 {
			checkCode(t, "in range", r, edNew(parent, i, "p"), impl.EdWell)
		}
	}
}

// crowd is a replica whose ul 10 has kids with these keys, in the order of
// their ids: {1, 0}, {2, 0} and so on.
func crowd(rows ...[]int) impl.Replica {
	var l []impl.Op
	for i, row := range rows {
		l = append(l, newElem(id(i+1, 0), id(0, 10), row, "li"))
	}
	return holding(5, shed(), l...)
}

func TestApplyKeyAt(t *testing.T) {
	ul, tops := id(0, 10), slices.Repeat(key(999), impl.MaxKey)
	for _, row := range []struct {
		what string
		rep  impl.Replica
		want [][]int // nothing: there is no room
	}{
		{"one", crowd(key(5)), [][]int{key(2), key(502)}},
		{"by Key as by Id", crowd(key(2), key(4), key(8)), [][]int{key(1), key(3), key(6), key(504)}},
		{"by Key, not by Id", crowd(key(8), key(2), key(4)), [][]int{key(1), key(3), key(6), key(504)}},
		{"one begins the other", crowd(key(5, 2), key(5)), [][]int{key(2), key(5, 1), key(502)}},
		{"two with one Key", crowd(key(5), key(5)), [][]int{key(2), nil, key(502)}},
		{"three with one Key", crowd(key(5), key(5), key(5)), [][]int{key(2), nil, nil, key(502)}},
		{"one Key in the middle", crowd(key(9), key(5), key(3), key(5)), [][]int{key(1), key(4), nil, key(7), key(504)}},
		{"no room between", crowd(zeros(11, 1), zeros(11, 2)), [][]int{nil, nil, key(500)}},
		{"no room behind", crowd(tops), [][]int{key(499), nil}},
		{"no room ahead", crowd(zeros(11, 1)), [][]int{nil, key(500)}},
		{"just room", crowd(zeros(11, 1), zeros(11, 3)), [][]int{nil, zeros(11, 2), key(500)}},
		{"no room behind one that begins the other", crowd(zeros(10, 1), zeros(10, 1, 1)), [][]int{zeros(11, 500), nil, key(500)}},
	} {
		for i, want := range row.want {
			what := fmt.Sprint(row.what, " at ", i)
			if want == nil {
				checkCode(t, what, row.rep, edNew(ul, i, "s"), impl.EdKey)
				checkCode(t, what, row.rep, edNewText(ul, i, "x"), impl.EdKey)
				checkCode(t, what, row.rep, edMove(id(0, 2), ul, i), impl.EdKey)
				continue
			}
			checkDone(t, what, row.rep, edNew(ul, i, "s"), newElem(noStamp, ul, want, "s"))
			checkDone(t, what, row.rep, edNewText(ul, i, "x"), newText(noStamp, ul, want, "x"))
			checkDone(t, what, row.rep, edMove(id(0, 2), ul, i), move(noStamp, id(0, 2), ul, want))
		}
		for _, i := range []int{-1, len(row.want)} {
			checkCode(t, row.what+", out of range", row.rep, edNew(ul, i, "s"), impl.EdRange)
			checkCode(t, row.what+", out of range", row.rep, edMove(id(0, 2), ul, i), impl.EdRange)
		}
	}
}

func TestApplyMoveAmongTheSameKids(t *testing.T) {
	r := holding(5, shed())
	for _, row := range []struct {
		node impl.Id
		i    int
		key  []int
		doc  string
	}{
		{id(0, 9), 0, key(0, 500), `<body><hr><p c="1" e="2">a<b><i><u></u></i><br></b></p>z<ul></ul></body>`},
		{id(0, 9), 1, key(1, 500), `<body><p c="1" e="2">a<b><i><u></u></i><br></b></p><hr>z<ul></ul></body>`},
		{id(0, 9), 2, key(3), `<body><p c="1" e="2">a<b><i><u></u></i><br></b></p>z<hr><ul></ul></body>`},
		{id(0, 9), 3, key(502), `<body><p c="1" e="2">a<b><i><u></u></i><br></b></p>z<ul></ul><hr></body>`},
		{id(0, 2), 0, key(1), `<body><p c="1" e="2">a<b><i><u></u></i><br></b></p>z<hr><ul></ul></body>`},
		{id(0, 10), 3, key(501), `<body><p c="1" e="2">a<b><i><u></u></i><br></b></p>z<hr><ul></ul></body>`},
		{id(0, 8), 0, key(0, 500), `<body>z<p c="1" e="2">a<b><i><u></u></i><br></b></p><hr><ul></ul></body>`},
	} {
		got := checkDone(t, "among the same", r, edMove(row.node, rootId, row.i), move(noStamp, row.node, rootId, row.key))
		checkShown(t, "among the same", docOf(t, got), row.doc)
	}
	for _, node := range []impl.Id{id(0, 2), id(0, 8), id(0, 9), id(0, 10)} {
		for _, i := range []int{-1, 4, 5, math.MinInt, math.MaxInt} {
			checkCode(t, "among the same, out of range", r, edMove(node, rootId, i), impl.EdRange)
		}
	}
	checkDone(t, "the only one", r, edMove(id(0, 6), id(0, 5), 0), move(noStamp, id(0, 6), id(0, 5), key(500)))
	checkCode(t, "the only one", r, edMove(id(0, 6), id(0, 5), 1), impl.EdRange)
	ul := id(0, 10)
	twins := crowd(key(5), key(5), key(9))
	checkDone(t, "the one with one Key left aside", twins, edMove(id(1, 0), ul, 0), move(noStamp, id(1, 0), ul, key(2)))
	checkDone(t, "the one with one Key left aside", twins, edMove(id(1, 0), ul, 1), move(noStamp, id(1, 0), ul, key(7)))
	checkDone(t, "the other one left aside", twins, edMove(id(2, 0), ul, 1), move(noStamp, id(2, 0), ul, key(7)))
	checkCode(t, "both are left", twins, edMove(id(3, 0), ul, 1), impl.EdKey)
	near := crowd(zeros(11, 1), zeros(11, 2), zeros(11, 3))
	checkDone(t, "room where it was", near, edMove(id(2, 0), ul, 1), move(noStamp, id(2, 0), ul, zeros(11, 2)))
	checkCode(t, "no room", near, edMove(id(3, 0), ul, 1), impl.EdKey)
}

func TestApplyMove(t *testing.T) {
	r := holding(5, shed())
	for _, row := range []struct {
		node, to impl.Id
		i        int
		key      []int
		doc      string
	}{
		{id(0, 2), id(0, 10), 0, key(500), `<body>z<hr><ul><p c="1" e="2">a<b><i><u></u></i><br></b></p></ul></body>`},
		{id(0, 4), rootId, 4, key(502), `<body><p c="1" e="2">a</p>z<hr><ul></ul><b><i><u></u></i><br></b></body>`},
		{id(0, 5), id(0, 2), 0, key(0, 500), `<body><p c="1" e="2"><i><u></u></i>a<b><br></b></p>z<hr><ul></ul></body>`},
		{id(0, 8), id(0, 6), 0, key(500), `<body><p c="1" e="2">a<b><i><u>z</u></i><br></b></p><hr><ul></ul></body>`},
		{id(0, 9), id(0, 4), 1, key(1, 500), `<body><p c="1" e="2">a<b><i><u></u></i><hr><br></b></p>z<ul></ul></body>`},
		{id(0, 3), id(0, 4), 2, key(501), `<body><p c="1" e="2"><b><i><u></u></i><br>a</b></p>z<hr><ul></ul></body>`},
	} {
		got := checkDone(t, "moved", r, edMove(row.node, row.to, row.i), move(noStamp, row.node, row.to, row.key))
		checkShown(t, "moved", docOf(t, got), row.doc)
	}
}

func TestApplyMoveRefused(t *testing.T) {
	r := holding(5, shed(), newElem(id(1, 0), trashId, key(1), "p"), move(id(2, 0), id(0, 9), trashId, key(1)), move(id(3, 0), id(0, 8), id(1, 0), key(1)))
	none := map[string]impl.Id{"the trash": trashId, "what is in the trash": id(0, 9), "what was made in the trash": id(1, 0),
		"what is deeper in the trash": id(0, 8), "no place": id(0, 11), "no stamp": id(2, 0), "no place at the limit": id(0, 121)}
	for what, x := range none {
		for _, i := range []int{0, -1, 9} {
			checkCode(t, what, r, edMove(x, id(0, 10), i), impl.EdNone)
			checkCode(t, what+" into itself", r, edMove(x, x, i), impl.EdNone)
			checkCode(t, "into "+what, r, edMove(id(0, 4), x, i), impl.EdNone)
		}
		for other, y := range none {
			checkCode(t, what+" into "+other, r, edMove(x, y, 0), impl.EdNone)
		}
	}
	for _, to := range []impl.Id{rootId, id(0, 2), id(0, 6), id(0, 10), id(0, 3), id(0, 7)} {
		for _, i := range []int{0, -1, 9} {
			checkCode(t, "the root", r, edMove(rootId, to, i), impl.EdNone)
		}
	}
	for what, to := range map[string]impl.Id{"a text": id(0, 3), "br": id(0, 7)} {
		for _, i := range []int{0, -1, 9} {
			checkCode(t, "into "+what, r, edMove(id(0, 10), to, i), impl.EdNone)
			checkCode(t, "into "+what+" within it", r, edMove(id(0, 2), to, i), impl.EdNone)
			checkCode(t, "into "+what+" itself", r, edMove(to, to, i), impl.EdNone)
		}
	}
	for _, pair := range [][2]int{{2, 2}, {2, 4}, {2, 5}, {2, 6}, {4, 4}, {4, 5}, {4, 6}, {5, 5}, {5, 6}, {6, 6}, {10, 10}} {
		for _, i := range []int{0, 1, -1, 9, math.MinInt, math.MaxInt} {
			checkCode(t, "into itself", r, edMove(id(0, pair[0]), id(0, pair[1]), i), impl.EdLoop)
		}
	}
	for _, pair := range [][2]int{{4, 2}, {5, 4}, {6, 4}, {6, 2}, {5, 2}, {10, 6}, {6, 10}, {7, 2}} {
		checkCode(t, "not into itself", r, edMove(id(0, pair[0]), id(0, pair[1]), 0), impl.EdWell)
	}
	loop := done(t, holding(1, shed()), edMove(id(0, 2), id(0, 10), 0))
	checkCode(t, "what was moved into it holds it", loop, edMove(id(0, 10), id(0, 6), 0), impl.EdLoop)
	checkCode(t, "what was moved into it holds it", loop, edMove(id(0, 10), id(0, 2), 0), impl.EdLoop)
}

func TestApplyDrop(t *testing.T) {
	r := holding(5, shed())
	for node, doc := range map[impl.Id]string{
		id(0, 2):  `<body>z<hr><ul></ul></body>`,
		id(0, 3):  `<body><p c="1" e="2"><b><i><u></u></i><br></b></p>z<hr><ul></ul></body>`,
		id(0, 4):  `<body><p c="1" e="2">a</p>z<hr><ul></ul></body>`,
		id(0, 7):  `<body><p c="1" e="2">a<b><i><u></u></i></b></p>z<hr><ul></ul></body>`,
		id(0, 8):  `<body><p c="1" e="2">a<b><i><u></u></i><br></b></p><hr><ul></ul></body>`,
		id(0, 9):  `<body><p c="1" e="2">a<b><i><u></u></i><br></b></p>z<ul></ul></body>`,
		id(0, 10): `<body><p c="1" e="2">a<b><i><u></u></i><br></b></p>z<hr></body>`,
	} {
		got := checkDone(t, "dropped", r, edDrop(node), move(noStamp, node, trashId, key(1)))
		checkShown(t, "dropped", docOf(t, got), doc)
		checkCode(t, "dropped again", got, edDrop(node), impl.EdNone)
	}
	gone := done(t, r, edDrop(id(0, 2)))
	for _, x := range []int{2, 3, 4, 5, 6, 7} {
		what := fmt.Sprint(x, " is within what was dropped")
		checkCode(t, what, gone, edNew(id(0, x), 0, "s"), impl.EdNone)
		checkCode(t, what, gone, edMove(id(0, x), rootId, 0), impl.EdNone)
		checkCode(t, what, gone, edMove(id(0, 8), id(0, x), 0), impl.EdNone)
		checkCode(t, what, gone, edDrop(id(0, x)), impl.EdNone)
		checkCode(t, what, gone, edText(id(0, x), "x"), impl.EdNone)
		checkCode(t, what, gone, edAttr(id(0, x), "a", "v"), impl.EdNone)
	}
	checkDone(t, "another one with the same key", gone, edDrop(id(0, 9)), move(noStamp, id(0, 9), trashId, key(1)))
	for what, node := range map[string]impl.Id{"the root": rootId, "the trash": trashId, "no place": id(0, 11), "no stamp": id(9, 5)} {
		checkCode(t, what, r, edDrop(node), impl.EdNone)
	}
	back, ok := impl.Hear(gone, move(id(2, 0), id(0, 2), rootId, key(7)))
	if !ok {
		t.Fatal("not heard")
	}
	checkDone(t, "what another one brought back", back, edDrop(id(0, 4)), move(noStamp, id(0, 4), trashId, key(1)))
}

func TestApplyText(t *testing.T) {
	r := holding(5, shed(), newText(id(1, 0), id(0, 10), key(1), "n"), newElem(id(2, 0), id(0, 10), key(2), "li"), newText(id(3, 0), trashId, key(1), "t"))
	for _, node := range []impl.Id{id(0, 3), id(0, 8), id(1, 0)} {
		for _, s := range []string{"", "x", "z", "<&\">", strings.Repeat("~", impl.MaxText)} {
			checkDone(t, "a text", r, edText(node, s), setText(noStamp, node, s))
		}
	}
	for what, node := range map[string]impl.Id{"the root": rootId, "the trash": trashId, "an element": id(0, 2), "br": id(0, 7), "an element that was made": id(2, 0),
		"a text in the trash": id(3, 0), "no place": id(0, 11), "no stamp": id(3, 1)} {
		checkCode(t, what, r, edText(node, "x"), impl.EdNone)
	}
	got := done(t, r, edText(id(0, 8), "<&>"), edText(id(1, 0), ""))
	checkShown(t, "both", docOf(t, got), `<body><p c="1" e="2">a<b><i><u></u></i><br></b></p>&lt;&amp;><hr><ul><li></li></ul></body>`)
}

func TestApplyAttr(t *testing.T) {
	r := holding(5, shed(), newText(id(1, 0), id(0, 10), key(1), "n"), newElem(id(2, 0), id(0, 10), key(2), "li"), newElem(id(3, 0), trashId, key(1), "p"))
	for _, node := range []impl.Id{rootId, id(0, 2), id(0, 7), id(0, 9), id(2, 0)} {
		for _, name := range []string{"c", "e", "a", "z9", "abcdefgh"} {
			for _, s := range []string{"", "1", "<&\">", strings.Repeat("~", impl.MaxText)} {
				checkDone(t, "an attribute", r, edAttr(node, name, s), setAttr(noStamp, node, name, s))
			}
			checkDone(t, "an attribute that goes", r, edNoAttr(node, name), noAttr(noStamp, node, name))
		}
	}
	for what, node := range map[string]impl.Id{"a text": id(0, 3), "a text that was made": id(1, 0), "the trash": trashId,
		"an element in the trash": id(3, 0), "no place": id(0, 11), "no stamp": id(3, 1)} {
		checkCode(t, what, r, edAttr(node, "a", "v"), impl.EdNone)
		checkCode(t, what, r, edNoAttr(node, "a"), impl.EdNone)
	}
	got := done(t, r, edAttr(rootId, "k", "\"&"), edNoAttr(id(0, 2), "c"), edAttr(id(0, 2), "e", ""), edAttr(id(0, 9), "x", "y"))
	checkShown(t, "all", docOf(t, got), `<body k="&quot;&amp;"><p e="">a<b><i><u></u></i><br></b></p>z<hr x="y"><ul>n<li></li></ul></body>`)
	full := done(t, holding(5, shed()), edAttr(id(0, 2), "a", "1"), edAttr(id(0, 2), "b", "2"))
	more := checkDone(t, "one more than MaxAttrs", full, edAttr(id(0, 2), "d", "3"), setAttr(noStamp, id(0, 2), "d", "3"))
	checkShown(t, "one more than MaxAttrs", docOf(t, more), docOf(t, full))
	back := checkDone(t, "and undone", more, edUndo(), noAttr(noStamp, id(0, 2), "d"))
	checkShown(t, "and undone", docOf(t, back), docOf(t, full))
}

func TestApplyUndoOfNothing(t *testing.T) {
	checkCode(t, "no operations", holding(3, shed()), edUndo(), impl.EdNone)
	checkCode(t, "a clock alone", withClock(holding(3, shed()), 9), edUndo(), impl.EdNone)
	others := []impl.Op{setText(id(1, 0), id(0, 8), "x"), setText(id(1, 2), id(0, 8), "y"), setText(id(1, 4), id(0, 8), "z"), setText(id(2, 7), id(0, 8), "w")}
	checkCode(t, "others' alone", holding(3, shed(), others...), edUndo(), impl.EdNone)
	own := setText(id(3, 3), id(0, 8), "own")
	r := holding(3, shed(), append(others, own)...)
	checkCode(t, "one's own", r, edUndo(), impl.EdWell)
	checkCode(t, "one's own, undone", withUndone(r, id(3, 3)), edUndo(), impl.EdNone)
	checkCode(t, "another one undone", withUndone(r, id(2, 3)), edUndo(), impl.EdWell)
	for rep := range impl.MaxReps {
		want := impl.EdNone
		if rep == 3 {
			want = impl.EdWell
		}
		checkCode(t, fmt.Sprint("of replica ", rep), holding(rep, shed(), own), edUndo(), want)
	}
	twice := holding(3, shed(), own, setText(id(4, 3), id(0, 3), "too"))
	checkCode(t, "both undone", withUndone(twice, id(3, 3), id(4, 3)), edUndo(), impl.EdNone)
	checkCode(t, "the last one undone", withUndone(twice, id(4, 3)), edUndo(), impl.EdWell)
	checkCode(t, "the first one undone", withUndone(twice, id(3, 3)), edUndo(), impl.EdWell)
}

func TestApplyUndoOfTheLastOne(t *testing.T) {
	l := []impl.Op{setText(id(2, 3), id(0, 8), "one"), setText(id(4, 3), id(0, 3), "two"), setText(id(6, 3), id(0, 8), "three"), setText(id(7, 4), id(0, 3), "theirs"), setText(id(9, 0), id(0, 8), "theirs")}
	r := holding(3, shed(), l...)
	for _, row := range []struct {
		undone []impl.Id
		want   impl.Op
		stamps []impl.Id
	}{
		{nil, setText(noStamp, id(0, 8), "theirs"), []impl.Id{id(6, 3), id(10, 3)}},
		{[]impl.Id{id(6, 3)}, setText(noStamp, id(0, 3), "theirs"), []impl.Id{id(4, 3), id(6, 3), id(10, 3)}},
		{[]impl.Id{id(4, 3)}, setText(noStamp, id(0, 8), "theirs"), []impl.Id{id(4, 3), id(6, 3), id(10, 3)}},
		{[]impl.Id{id(2, 3), id(6, 3)}, setText(noStamp, id(0, 3), "theirs"), []impl.Id{id(2, 3), id(4, 3), id(6, 3), id(10, 3)}},
		{[]impl.Id{id(4, 3), id(6, 3)}, setText(noStamp, id(0, 8), "theirs"), []impl.Id{id(2, 3), id(4, 3), id(6, 3), id(10, 3)}},
		{[]impl.Id{id(1, 3), id(5, 3), id(7, 3), id(9, 3)}, setText(noStamp, id(0, 8), "theirs"),
			[]impl.Id{id(1, 3), id(5, 3), id(6, 3), id(7, 3), id(9, 3), id(10, 3)}},
	} {
		got := checkDone(t, fmt.Sprint("undone ", row.undone), withUndone(r, row.undone...), edUndo(), row.want)
		checkShown(t, "Undone", got.Undone, row.stamps)
	}
	checkCode(t, "all undone", withUndone(r, id(2, 3), id(4, 3), id(6, 3)), edUndo(), impl.EdNone)
	r.Ops = r.Ops[:3]
	r.Clock = 6
	got := checkDone(t, "three", r, edUndo(), setText(noStamp, id(0, 8), "one"))
	got = checkDone(t, "two", got, edUndo(), setText(noStamp, id(0, 3), "a"))
	got = checkDone(t, "one", got, edUndo(), setText(noStamp, id(0, 8), "one"))
	checkShown(t, "all of them", got.Undone, []impl.Id{id(2, 3), id(4, 3), id(6, 3), id(7, 3), id(8, 3), id(9, 3)})
	checkCode(t, "and no more", got, edUndo(), impl.EdNone)
}

func TestApplyUndoOfEachKind(t *testing.T) {
	r := holding(3, shed())
	at := noStamp
	for _, row := range []struct {
		what string
		edit impl.Edit
		want impl.Op
	}{
		{"a new element", edNew(rootId, 0, "s"), move(at, id(1, 3), trashId, key(1))},
		{"a new text", edNewText(id(0, 6), 0, "s"), move(at, id(1, 3), trashId, key(1))},
		{"a move", edMove(id(0, 2), id(0, 10), 0), move(at, id(0, 2), rootId, key(1))},
		{"a move among the same", edMove(id(0, 9), rootId, 0), move(at, id(0, 9), rootId, key(3))},
		{"a drop", edDrop(id(0, 4)), move(at, id(0, 4), id(0, 2), key(2))},
		{"a text", edText(id(0, 8), "x"), setText(at, id(0, 8), "z")},
		{"a text that stays", edText(id(0, 8), "z"), setText(at, id(0, 8), "z")},
		{"a text that goes empty", edText(id(0, 3), ""), setText(at, id(0, 3), "a")},
		{"an attribute that was there", edAttr(id(0, 2), "c", "x"), setAttr(at, id(0, 2), "c", "1")},
		{"an attribute that was not there", edAttr(id(0, 2), "d", "x"), noAttr(at, id(0, 2), "d")},
		{"an attribute that goes", edNoAttr(id(0, 2), "e"), setAttr(at, id(0, 2), "e", "2")},
		{"an attribute that goes, not being there", edNoAttr(id(0, 2), "d"), noAttr(at, id(0, 2), "d")},
		{"the root's attribute", edAttr(rootId, "k", "x"), noAttr(at, rootId, "k")},
	} {
		changed := done(t, r, row.edit)
		back := checkDone(t, row.what, changed, edUndo(), row.want)
		checkShown(t, row.what+": the document", docOf(t, back), docOf(t, r))
		checkShown(t, row.what+": Undone", back.Undone, []impl.Id{id(1, 3), id(2, 3)})
		checkCode(t, row.what+": undone twice", back, edUndo(), impl.EdNone)
		again := done(t, back, row.edit)
		checkShown(t, row.what+": done again", docOf(t, again), docOf(t, changed))
		back = done(t, again, edUndo())
		checkShown(t, row.what+": undone again", docOf(t, back), docOf(t, r))
		checkShown(t, row.what+": Undone again", back.Undone, []impl.Id{id(1, 3), id(2, 3), id(3, 3), id(4, 3)})
		checkCode(t, row.what+": and no more", back, edUndo(), impl.EdNone)
	}
	gone := done(t, r, edNoAttr(id(0, 2), "c"), edAttr(id(0, 2), "c", "new"))
	checkDone(t, "an attribute that had gone", gone, edUndo(), noAttr(at, id(0, 2), "c"))
	empty := done(t, r, edAttr(id(0, 2), "c", ""), edNoAttr(id(0, 2), "c"))
	checkDone(t, "an attribute that was empty", empty, edUndo(), setAttr(at, id(0, 2), "c", ""))
	moved := done(t, r, edMove(id(0, 4), id(0, 10), 0), edDrop(id(0, 4)))
	checkDone(t, "a drop of what had been moved", moved, edUndo(), move(at, id(0, 4), id(0, 10), key(500)))
}

// Operations may be heard that no edit makes: of what is no place, of root and
// of trash.
func TestApplyUndoOfWhatWasHeard(t *testing.T) {
	at, own := noStamp, id(4, 3)
	for what, o := range map[string]impl.Op{
		"a move of no place":        move(own, id(0, 11), rootId, key(1)),
		"a move of its own stamp":   move(own, own, rootId, key(1)),
		"a move of the root":        move(own, rootId, id(0, 10), key(1)),
		"a move of the trash":       move(own, trashId, id(0, 10), key(1)),
		"a text of no place":        setText(own, id(3, 3), "x"),
		"a text of the root":        setText(own, rootId, "x"),
		"a text of the trash":       setText(own, trashId, "x"),
		"an attribute of no place":  setAttr(own, id(0, 121), "c", "x"),
		"no attribute of no place":  noAttr(own, id(3, 3), "c"),
		"an attribute of its stamp": setAttr(own, own, "c", "x"),
	} {
		checkCode(t, what, holding(3, shed(), o), edUndo(), impl.EdNone)
	}
	for what, pair := range map[string][2]impl.Op{
		"a new one of no place":        {newElem(own, id(0, 11), key(1), "p"), move(at, own, trashId, key(1))},
		"a new one of a text":          {newText(own, id(0, 3), key(1), "x"), move(at, own, trashId, key(1))},
		"a new one of the trash":       {newElem(own, trashId, key(9), "p"), move(at, own, trashId, key(1))},
		"an attribute of the root":     {setAttr(own, rootId, "c", "x"), noAttr(at, rootId, "c")},
		"an attribute of the trash":    {setAttr(own, trashId, "c", "x"), noAttr(at, trashId, "c")},
		"no attribute of the trash":    {noAttr(own, trashId, "c"), noAttr(at, trashId, "c")},
		"an attribute of a text":       {setAttr(own, id(0, 8), "c", "x"), noAttr(at, id(0, 8), "c")},
		"a text of an element":         {setText(own, id(0, 2), "x"), setText(at, id(0, 2), "")},
		"a text of br":                 {setText(own, id(0, 7), "x"), setText(at, id(0, 7), "")},
		"a move that could not be":     {move(own, id(0, 2), id(0, 6), key(9)), move(at, id(0, 2), rootId, key(1))},
		"a move into no place":         {move(own, id(0, 2), id(0, 11), key(9)), move(at, id(0, 2), rootId, key(1))},
		"a move into a text":           {move(own, id(0, 4), id(0, 3), key(9)), move(at, id(0, 4), id(0, 2), key(2))},
		"a move where it was":          {move(own, id(0, 4), id(0, 2), key(2)), move(at, id(0, 4), id(0, 2), key(2))},
		"a move into the trash":        {move(own, id(0, 4), trashId, key(7, 7)), move(at, id(0, 4), id(0, 2), key(2))},
		"an attribute that was there":  {setAttr(own, id(0, 2), "e", "x"), setAttr(at, id(0, 2), "e", "2")},
		"a text that was there before": {setText(own, id(0, 3), "x"), setText(at, id(0, 3), "a")},
	} {
		checkDone(t, what, holding(3, shed(), pair[0]), edUndo(), pair[1])
	}
}

func TestApplyUndoAfterOthers(t *testing.T) {
	at, own, later, much := noStamp, id(4, 3), id(5, 0), id(6, 1)
	for _, row := range []struct {
		what string
		l    []impl.Op
		want impl.Op
	}{
		{"a text that another one changed", []impl.Op{setText(own, id(0, 8), "x"), setText(later, id(0, 8), "w")}, setText(at, id(0, 8), "w")},
		{"a text that another one changed ahead", []impl.Op{setText(id(3, 7), id(0, 8), "w"), setText(own, id(0, 8), "x")}, setText(at, id(0, 8), "w")},
		{"a text that was made later", []impl.Op{setText(own, later, "x"), newText(later, rootId, key(9), "w")}, setText(at, later, "w")},
		{"a text that was dropped", []impl.Op{setText(own, id(0, 8), "x"), move(later, id(0, 8), trashId, key(1))}, setText(at, id(0, 8), "z")},
		{"a text within what was dropped", []impl.Op{setText(own, id(0, 3), "x"), move(later, id(0, 2), trashId, key(1))}, setText(at, id(0, 3), "a")},
		{"a move that another one moved on", []impl.Op{move(own, id(0, 4), id(0, 10), key(9)), move(later, id(0, 4), rootId, key(7))}, move(at, id(0, 4), rootId, key(7))},
		{"a move that another one dropped", []impl.Op{move(own, id(0, 4), id(0, 10), key(9)), move(later, id(0, 4), trashId, key(2))}, move(at, id(0, 4), trashId, key(2))},
		{"a move into what another one dropped", []impl.Op{move(own, id(0, 4), id(0, 10), key(9)), move(later, id(0, 10), trashId, key(1))}, move(at, id(0, 4), id(0, 2), key(2))},
		{"a move out of what another one dropped", []impl.Op{move(own, id(0, 4), id(0, 10), key(9)), move(later, id(0, 2), trashId, key(1))}, move(at, id(0, 4), id(0, 2), key(2))},
		{"a move that barred another one's", []impl.Op{move(own, id(0, 2), id(0, 10), key(9)), move(later, id(0, 10), id(0, 2), key(5))}, move(at, id(0, 2), rootId, key(1))},
		{"a move of what was made later", []impl.Op{move(own, later, id(0, 10), key(9)), newElem(later, id(0, 2), key(3), "s")}, move(at, later, id(0, 2), key(3))},
		{"a move of what was made and moved later", []impl.Op{move(own, later, id(0, 10), key(9)), newElem(later, id(0, 2), key(3), "s"), move(much, later, id(0, 6), key(4))}, move(at, later, id(0, 6), key(4))},
		{"a drop that another one undid", []impl.Op{move(own, id(0, 4), trashId, key(1)), move(later, id(0, 4), rootId, key(8))}, move(at, id(0, 4), rootId, key(8))},
		{"an attribute that another one changed", []impl.Op{setAttr(own, id(0, 2), "c", "x"), setAttr(later, id(0, 2), "c", "w")}, setAttr(at, id(0, 2), "c", "w")},
		{"an attribute that another one took away", []impl.Op{setAttr(own, id(0, 2), "c", "x"), noAttr(later, id(0, 2), "c")}, noAttr(at, id(0, 2), "c")},
		{"an attribute that had gone", []impl.Op{noAttr(id(3, 0), id(0, 2), "c"), setAttr(own, id(0, 2), "c", "x")}, noAttr(at, id(0, 2), "c")},
		{"an attribute of what was made later", []impl.Op{setAttr(own, later, "c", "x"), newElem(later, rootId, key(9), "s"), setAttr(much, later, "c", "w")}, setAttr(at, later, "c", "w")},
		{"a new one that another one moved", []impl.Op{newElem(own, rootId, key(9), "s"), move(later, own, id(0, 6), key(3))}, move(at, own, trashId, key(1))},
		{"a new one into which another one put", []impl.Op{newElem(own, rootId, key(9), "s"), newText(later, own, key(3), "x")}, move(at, own, trashId, key(1))},
		{"a new one that another one dropped", []impl.Op{newElem(own, rootId, key(9), "s"), move(later, own, trashId, key(3))}, move(at, own, trashId, key(1))},
	} {
		checkDone(t, row.what, holding(3, shed(), row.l...), edUndo(), row.want)
	}
	filled := []impl.Op{setAttr(id(1, 0), id(0, 2), "a", "1"), setAttr(id(2, 0), id(0, 2), "b", "2"), noAttr(own, id(0, 2), "a"), setAttr(later, id(0, 2), "d", "4")}
	r := holding(3, shed(), filled...)
	back := checkDone(t, "an attribute whose room another one took", r, edUndo(), setAttr(at, id(0, 2), "a", "1"))
	checkShown(t, "no room any more", docOf(t, back), docOf(t, r))
}

// filled has so many operations, with others' ones behind those that are there.
func filled(r impl.Replica, count int) impl.Replica {
	r.Ops = slices.Clone(r.Ops)
	for i := len(r.Ops); i < count; i++ {
		r.Clock++
		r.Ops = append(r.Ops, setText(id(r.Clock, (r.Id+1)%8), id(0, 8), "f"))
	}
	return r
}

// wellEdits are well in a shed where the replica has put a text s behind all,
// and nothing else.
func wellEdits() []impl.Edit {
	return []impl.Edit{edNew(rootId, 0, "s"), edNewText(id(0, 6), 0, "x"), edMove(id(0, 2), id(0, 10), 0), edDrop(id(0, 4)),
		edText(id(0, 8), "x"), edAttr(id(0, 2), "c", "v"), edNoAttr(id(0, 2), "c"), edUndo()}
}

func withOwn(rep int) impl.Replica {
	return holding(rep, shed(), newText(id(1, rep), rootId, key(5), "s"))
}

func TestApplyFull(t *testing.T) {
	for _, e := range wellEdits() {
		r := withOwn(2)
		for _, count := range []int{1, 2, impl.MaxOps - 2, impl.MaxOps - 1} {
			checkCode(t, fmt.Sprint(count, " operations"), filled(r, count), e, impl.EdWell)
		}
		checkCode(t, "MaxOps operations", filled(r, impl.MaxOps), e, impl.EdFull)
		for _, count := range []int{0, 1, impl.MaxOps - 3, impl.MaxOps - 2} {
			some := withClock(withUndone(r, stamps(count+1, 2)[1:]...), 500)
			checkCode(t, fmt.Sprint(count, " undone"), some, e, impl.EdWell)
		}
		for _, count := range []int{impl.MaxOps - 1, impl.MaxOps} {
			some := withClock(withUndone(r, stamps(count+1, 2)[1:]...), 500)
			checkCode(t, fmt.Sprint(count, " undone"), some, e, impl.EdFull)
			checkCode(t, fmt.Sprint(count, " undone, MaxOps operations"), filled(some, impl.MaxOps), e, impl.EdFull)
		}
	}
	r := withClock(withUndone(withOwn(2), stamps(impl.MaxOps-1, 2)[1:]...), 500)
	back := done(t, r, edUndo())
	if len(back.Undone) != impl.MaxOps || back.Undone[0] != id(1, 2) || back.Undone[impl.MaxOps-1] != id(501, 2) {
		t.Fatalf("Undone is %v", back.Undone)
	}
}

func TestApplyClock(t *testing.T) {
	for _, e := range wellEdits() {
		for clock, want := range map[int]int{1: impl.EdWell, impl.MaxClock - 2: impl.EdWell, impl.MaxClock - 1: impl.EdWell, impl.MaxClock: impl.EdClock} {
			r := withClock(withOwn(7), clock)
			got, o, code := applied(t, fmt.Sprint("Clock ", clock), r, e)
			if code != want || code == impl.EdWell && (o.At != id(clock+1, 7) || got.Clock != clock+1) || code != impl.EdWell && got.Clock != clock {
				t.Fatalf("Clock %d: %+v is %d with %+v", clock, e, code, o)
			}
		}
	}
}

// Where several codes apply, the first one counts: each row has all codes from
// its own on, as far as they can apply at once.
func TestApplyOrderOfCodes(t *testing.T) {
	ul := id(0, 10)
	full := func(r impl.Replica) impl.Replica { return withClock(filled(r, impl.MaxOps), impl.MaxClock) }
	r := full(crowd(key(5), key(5), key(9)))
	r.Undone = stamps(impl.MaxOps, 5)
	for _, row := range []struct {
		what string
		edit impl.Edit
		want int
	}{
		{"a form that may not be", impl.Edit{Kind: impl.EdMove, Node: id(0, 121), To: id(0, 122), I: -1}, impl.EdForm},
		{"new in no place", edNew(id(0, 11), -1, "p"), impl.EdNone},
		{"new in a text", edNew(id(0, 8), -1, "p"), impl.EdNone},
		{"new, out of range", edNew(ul, 4, "p"), impl.EdRange},
		{"new, out of range", edNew(ul, -1, "p"), impl.EdRange},
		{"new, no room", edNew(ul, 1, "p"), impl.EdKey},
		{"new", edNew(ul, 0, "p"), impl.EdFull},
		{"a move of no place into itself", edMove(id(0, 11), id(0, 11), -1), impl.EdNone},
		{"a move of the root into itself", edMove(rootId, rootId, -1), impl.EdNone},
		{"a move into its text", edMove(id(0, 2), id(0, 3), -1), impl.EdNone},
		{"a move into itself", edMove(ul, ul, -1), impl.EdLoop},
		{"a move into itself, no room", edMove(ul, ul, 1), impl.EdLoop},
		{"a move into what is in it", edMove(ul, id(1, 0), 7), impl.EdLoop},
		{"a move, out of range", edMove(id(0, 2), ul, 4), impl.EdRange},
		{"a move, no room", edMove(id(0, 2), ul, 1), impl.EdKey},
		{"a move", edMove(id(0, 2), ul, 0), impl.EdFull},
		{"a drop of the root", edDrop(rootId), impl.EdNone},
		{"a drop", edDrop(ul), impl.EdFull},
		{"a text of an element", edText(ul, ""), impl.EdNone},
		{"a text", edText(id(0, 8), ""), impl.EdFull},
		{"an attribute of a text", edAttr(id(0, 8), "a", ""), impl.EdNone},
		{"an attribute", edAttr(ul, "a", ""), impl.EdFull},
		{"nothing to undo", edUndo(), impl.EdNone},
	} {
		checkCode(t, row.what, r, row.edit, row.want)
		room := withUndone(r, stamps(3, 5)...)
		room.Ops = room.Ops[:20]
		want := row.want
		if want == impl.EdFull {
			want = impl.EdClock
		}
		checkCode(t, row.what+", with room", room, row.edit, want)
	}
	for what, own := range map[string]impl.Op{"no place": move(id(1, 5), id(0, 11), rootId, key(1)), "the root": setText(id(1, 5), rootId, "x")} {
		checkCode(t, "to be undone: "+what, full(holding(5, shed(), own)), edUndo(), impl.EdNone)
	}
	checkCode(t, "undo, full", full(withOwn(5)), edUndo(), impl.EdFull)
	checkCode(t, "undo, clock", withClock(withOwn(5), impl.MaxClock), edUndo(), impl.EdClock)
	wrong := full(withOwn(5))
	wrong.Clock++
	checkCode(t, "a replica that may not be", wrong, edDrop(id(0, 11)), impl.EdForm)
}

// A replica that was Lost goes on editing, and stays Lost.
func TestApplyKeepsLost(t *testing.T) {
	for _, e := range append(wellEdits(), edDrop(rootId), edNew(rootId, -1, "p")) {
		for _, lost := range []bool{false, true} {
			r := withOwn(4)
			r.Lost = lost
			if got, _, _ := applied(t, "Lost", r, e); got.Lost != lost {
				t.Fatalf("Lost is %v", got.Lost)
			}
		}
	}
}

// hearAs is read off the document by way of putAs.
func hearAs(r impl.Replica, o impl.Op) (impl.Replica, bool) {
	if !mayBeReplica(r) || !mayBeOp(o) {
		return impl.Replica{}, false
	}
	l, ok := putAs(r.Ops, o)
	if ok {
		r.Ops = l
		r.Clock = max(r.Clock, o.At.N)
	}
	r.Lost = r.Lost || !ok
	return r, ok
}

// heard tells what Hear does, held against hearAs; what is heard twice is heard
// once.
func heard(t *testing.T, what string, r impl.Replica, o impl.Op) (impl.Replica, bool) {
	t.Helper()
	want, wantOk := hearAs(r, o)
	for _, roomyToo := range []bool{false, true} {
		rep, op := r, o
		if roomyToo {
			rep, op = roomyOf(r), roomyOf(o)
		}
		got, ok := impl.Hear(rep, op)
		if ok != wantOk || shown(got) != shown(want) {
			t.Fatalf("%s: Hear(%+v, %+v) = %+v, %v; want %+v, %v", what, r, o, got, ok, want, wantOk)
		}
		checkNewMemory(t, got, rep, op)
		want = got
	}
	if again, ok := impl.Hear(want, o); wantOk && (!ok || shown(again) != shown(want)) {
		t.Fatalf("%s: %+v, heard twice, makes %+v of %+v", what, o, again, want)
	}
	if wantOk && !impl.ReplicaOk(want) {
		t.Fatalf("%s: %+v is not ReplicaOk", what, want)
	}
	return want, wantOk
}

func TestHear(t *testing.T) {
	r := holding(5, shed())
	for _, o := range goodOps() {
		got, ok := heard(t, "the first one", r, o)
		if !ok || shown(got) != shown(holding(5, shed(), o)) {
			t.Fatalf("Hear(%+v) = %+v, %v", o, got, ok)
		}
	}
	a, b, c := opOfKind(0, id(2, 7)), opOfKind(1, id(3, 0)), opOfKind(2, id(10, 4))
	want := holding(5, shed(), a, b, c)
	for _, order := range [][]impl.Op{{a, b, c}, {a, c, b}, {b, a, c}, {b, c, a}, {c, a, b}, {c, b, a}, {c, c, b, a, b, a, c}} {
		got := r
		for _, o := range order {
			got, _ = heard(t, "in any order", got, o)
		}
		checkShown(t, "in any order", got, want)
	}
}

func TestHearClock(t *testing.T) {
	for _, n := range []int{1, 2, 500, impl.MaxClock - 1, impl.MaxClock} {
		for _, clock := range []int{0, n - 1, n, n + 1, impl.MaxClock} {
			if clock > impl.MaxClock {
				continue
			}
			r := withClock(holding(5, shed()), clock)
			for rep := range impl.MaxReps {
				got, ok := heard(t, "a clock", r, setText(id(n, rep), id(0, 8), "x"))
				if !ok || got.Clock != max(clock, n) {
					t.Fatalf("Clock %d and %d: %+v, %v", clock, n, got, ok)
				}
			}
		}
	}
	r, _ := heard(t, "a greater one", holding(5, shed()), setText(id(50, 0), id(0, 8), "x"))
	checkDone(t, "behind what was heard", r, edDrop(id(0, 8)), move(noStamp, id(0, 8), trashId, key(1)))
	r, _ = heard(t, "the greatest one", r, setText(id(impl.MaxClock, 0), id(0, 8), "x"))
	checkCode(t, "behind the greatest one", r, edDrop(id(0, 8)), impl.EdClock)
}

func TestHearOfOneStamp(t *testing.T) {
	for _, count := range []int{1, 3, impl.MaxOps} {
		l := rowOfOps(count)
		for _, at := range []int{0, count / 2, count - 1} {
			all := rivals(l[at].At)
			for i := range len(all) - 1 {
				less, more := slices.Clone(l), slices.Clone(l)
				less[at], more[at] = all[i], all[i+1]
				for what, given := range map[string]impl.Replica{"the lesser one": holding(5, shed(), more...), "the same one": holding(5, shed(), less...)} {
					got, ok := heard(t, what, given, all[i])
					if !ok || shown(got) != shown(holding(5, shed(), less...)) {
						t.Fatalf("%s: %+v, %v", what, got, ok)
					}
				}
				got, ok := heard(t, "the greater one", holding(5, shed(), less...), all[i+1])
				if !ok || shown(got) != shown(holding(5, shed(), less...)) {
					t.Fatalf("the greater one: %+v, %v", got, ok)
				}
			}
		}
	}
}

func TestHearOfOneTooMany(t *testing.T) {
	r := holding(5, shed(), rowOfOps(impl.MaxOps)...)
	for _, lost := range []bool{false, true} {
		for _, at := range []impl.Id{id(1, 0), id(3, 3), id(40, 0), id(r.Clock, 7), id(r.Clock+1, 0), id(impl.MaxClock, 7)} {
			given := r
			given.Lost = lost
			want := r
			want.Lost = true
			got, ok := heard(t, "one too many", given, opOfKind(1, at))
			if ok || shown(got) != shown(want) {
				t.Fatalf("%v is heard: %+v, %v", at, got, ok)
			}
			checkReplica(t, "Lost", got, true)
			got, ok = heard(t, "one that is there", got, r.Ops[7])
			if !ok || shown(got) != shown(want) {
				t.Fatalf("one that is there: %+v, %v", got, ok)
			}
		}
	}
	almost := holding(5, shed(), rowOfOps(impl.MaxOps-1)...)
	if got, ok := heard(t, "the last one that has room", almost, opOfKind(1, id(3, 0))); !ok || got.Lost || len(got.Ops) != impl.MaxOps {
		t.Fatalf("%+v, %v", got, ok)
	}
}

func TestHearOfWhatMayNotBe(t *testing.T) {
	for _, count := range []int{0, 1, 5, impl.MaxOps} {
		r := holding(5, shed(), rowOfOps(count)...)
		for _, at := range []impl.Id{id(1, 0), id(2, 1), id(impl.MaxClock, 7)} {
			for _, wrong := range wrongOps(at) {
				if got, ok := heard(t, "an operation that may not be", r, wrong); ok || shown(got) != shown(impl.Replica{}) {
					t.Fatalf("Hear(%+v) = %+v, %v", wrong, got, ok)
				}
			}
		}
		for _, at := range []impl.Id{id(0, 0), id(impl.MaxClock+1, 0), id(1, 8), id(1, -1), id(-1, 0)} {
			if got, ok := heard(t, "a stamp that may not be", r, setText(at, id(0, 8), "x")); ok || shown(got) != shown(impl.Replica{}) {
				t.Fatalf("%v is heard: %+v, %v", at, got, ok)
			}
		}
	}
	wrong := withClock(holding(5, shed()), -1)
	if got, ok := heard(t, "neither may be", wrong, impl.Op{}); ok || shown(got) != shown(impl.Replica{}) {
		t.Fatalf("%+v, %v", got, ok)
	}
}

// A replica hears its own operations, too: it may be one that begins anew.
func TestHearOfOnesOwn(t *testing.T) {
	first := holding(5, shed())
	r := done(t, first, edNew(id(0, 10), 0, "li"), edText(id(0, 8), "x"), edUndo())
	again := first
	for _, o := range r.Ops {
		again, _ = heard(t, "one's own", again, o)
	}
	again.Undone = r.Undone
	checkShown(t, "begun anew", again, r)
	same, ok := heard(t, "one's own, that is there", r, r.Ops[1])
	if !ok {
		t.Fatal("not heard")
	}
	checkShown(t, "one's own, that is there", same, r)
}

func TestHearLeavesUndone(t *testing.T) {
	r := done(t, holding(5, shed()), edText(id(0, 8), "x"), edUndo())
	got, _ := heard(t, "another one's", r, setText(id(9, 0), id(0, 8), "w"))
	checkShown(t, "Undone", got.Undone, []impl.Id{id(1, 5), id(2, 5)})
	checkShown(t, "the document", docOf(t, got), `<body><p c="1" e="2">a<b><i><u></u></i><br></b></p>w<hr><ul></ul></body>`)
	checkCode(t, "nothing to undo", got, edUndo(), impl.EdNone)
}

func TestDoc(t *testing.T) {
	for _, row := range []struct {
		what  string
		first impl.Node
		l     []impl.Op
		want  string
	}{
		{"alone", elem("p"), nil, "<p></p>"},
		{"shed", shed(), nil, `<body><p c="1" e="2">a<b><i><u></u></i><br></b></p>z<hr><ul></ul></body>`},
		{"page", page(), nil, `<div class="big" id="top">onetwo<p a="" b2="v w">a&lt;b &amp; "c"<br x="1">~<h1> </h1></p><hr><ul><li>xy</li><li></li></ul></div>`},
		{"an operation", elem("p"), []impl.Op{newText(id(1, 0), rootId, key(1), "<")}, "<p>&lt;</p>"},
		{"two that bar one another", elem("p", elem("a"), elem("b")), []impl.Op{move(id(1, 0), id(0, 2), id(0, 3), key(1)), move(id(1, 1), id(0, 3), id(0, 2), key(1))}, "<p><b><a></a></b></p>"},
		{"what is in the trash", elem("p", elem("a"), elem("b")), []impl.Op{move(id(1, 0), id(0, 2), trashId, key(1))}, "<p><b></b></p>"},
		{"one Key", elem("p"), []impl.Op{newElem(id(1, 3), rootId, key(5), "a"), newElem(id(2, 1), rootId, key(5), "b"), newElem(id(3, 0), rootId, key(4), "i")}, "<p><i></i><a></a><b></b></p>"},
	} {
		r := holding(5, row.first, row.l...)
		checkShown(t, row.what, docOf(t, r), row.want)
		checkShown(t, row.what+", roomy", docOf(t, roomyOf(r)), row.want)
		r.Lost, r.Clock, r.Undone = true, impl.MaxClock, stamps(impl.MaxOps, 5)
		checkShown(t, row.what+", with all else", docOf(t, r), row.want)
	}
	full := strings.Repeat("&", impl.MaxText)
	wide := elem("p", copies(text(full), impl.MaxParts-1)...)
	checkShown(t, "however long", docOf(t, holding(0, wide)), "<p>"+strings.Repeat("&amp;", impl.MaxText*(impl.MaxParts-1))+"</p>")
	more := holding(0, wide, newText(id(1, 0), rootId, key(1), "x"), newText(id(2, 0), rootId, key(900), "y"))
	want := "<p>" + strings.Repeat("&amp;", impl.MaxText) + "x" + strings.Repeat("&amp;", impl.MaxText*(impl.MaxParts-3)) + "</p>"
	checkShown(t, "more than MaxParts", docOf(t, more), want)
}

// What stands beyond what a document shows is edited all the same.
func TestApplyBeyondWhatIsShown(t *testing.T) {
	deep := holding(2, nested(elem("d"), impl.MaxDeep))
	deep = done(t, deep, edNew(id(0, impl.MaxDeep), 0, "s"), edNewText(id(1, 2), 0, "x"), edText(id(2, 2), "y"), edDrop(id(1, 2)), edUndo())
	checkShown(t, "too deep", docOf(t, deep), docOf(t, holding(2, nested(elem("d"), impl.MaxDeep))))
	wide := holding(2, elem("p", copies(elem("b"), impl.MaxParts-1)...))
	wide = done(t, wide, edNew(rootId, impl.MaxParts-1, "s"), edMove(id(1, 2), rootId, 0))
	if doc := docOf(t, wide); !strings.HasPrefix(doc, "<p><s></s><b>") || strings.Count(doc, "<b>") != impl.MaxParts-2 {
		t.Fatal(doc)
	}
	checkCode(t, "one more than there are", wide, edNew(rootId, impl.MaxParts+1, "s"), impl.EdRange)
	checkCode(t, "as many as there are", wide, edNew(rootId, impl.MaxParts, "s"), impl.EdWell)
}

// editDrawn speaks mostly of what is a place.
func editDrawn(r *rand.Rand, rep impl.Replica) impl.Edit {
	s, _ := impl.Fold(rep.First, rep.Ops)
	some := func() impl.Id {
		if r.IntN(12) == 0 {
			return id(r.IntN(2)*r.IntN(rep.Clock+2), r.IntN(8))
		}
		return s.Places[r.IntN(len(s.Places))].Id
	}
	word := []string{"a", "b", "c1", "d", "e", "f"}[r.IntN(6)]
	i := []int{0, 0, 0, 1, 1, 2, 3, -1}[r.IntN(8)]
	return []impl.Edit{
		edNew(some(), i, []string{"p", "b", "br", "ul"}[r.IntN(4)]), edNewText(some(), i, word), edNew(rootId, i, word),
		edMove(some(), some(), i), edMove(some(), some(), i), edMove(some(), rootId, i), edDrop(some()),
		edText(some(), word), edText(some(), word), edAttr(some(), word, "v"), edNoAttr(some(), word), edUndo(), edUndo(), edUndo(),
	}[r.IntN(14)]
}

// replicaDrawn has operations that no edit made, and undid some of its own.
func replicaDrawn(r *rand.Rand) impl.Replica {
	first := firstDrawn(r)
	parts, _ := sizeOf(first)
	rep := holding(r.IntN(8), first, opsDrawn(r, r.IntN(25), parts)...)
	for i := range rep.Ops {
		if r.IntN(3) == 0 && (i == 0 || rep.Ops[i-1].At.N < rep.Ops[i].At.N) && (i == len(rep.Ops)-1 || rep.Ops[i+1].At.N > rep.Ops[i].At.N) {
			rep.Ops[i].At.Rep = rep.Id
		}
	}
	rep.Clock += []int{0, 0, 1, 7}[r.IntN(4)]
	if r.IntN(10) == 0 {
		rep.Clock = impl.MaxClock - r.IntN(2)
	}
	for n := 1; n <= min(rep.Clock, 30); n++ {
		if r.IntN(3) == 0 {
			rep.Undone = append(rep.Undone, id(n, rep.Id))
		}
	}
	rep.Lost = r.IntN(5) == 0
	return rep
}

func TestApplyOfManyEdits(t *testing.T) {
	r := rand.New(rand.NewPCG(6, 2))
	var seen [6][8]int
	for range 3000 {
		rep := replicaDrawn(r)
		checkReplica(t, "drawn", rep, true)
		for range 4 {
			e := editDrawn(r, rep)
			got, _, code := applied(t, "drawn", rep, e)
			seen[e.Kind][code]++
			rep = got
		}
	}
	for kind, wants := range [][]int{{0, 2, 4, 5, 7}, {0, 2, 3, 4, 5, 7}, {0, 2, 7}, {0, 2, 7}, {0, 2, 7}, {0, 2, 7}} {
		for _, code := range wants {
			if seen[kind][code] < 5 {
				t.Fatalf("the draw tells little: kinds and codes are %v", seen)
			}
		}
	}
}

// Promise 7: what is heard in whatever order, some of it several times, makes
// one document.
func TestHearInAnyOrder(t *testing.T) {
	r := rand.New(rand.NewPCG(6, 3))
	for range 150 {
		first := firstDrawn(r)
		parts, _ := sizeOf(first)
		l := opsDrawn(r, 1+r.IntN(30), parts)
		if r.IntN(2) == 0 {
			rival := drawnOp(r)
			rival.At = l[r.IntN(len(l))].At
			l = append(l, rival)
		}
		var reps [2]impl.Replica
		for i := range reps {
			reps[i], _ = impl.Start(r.IntN(8), first)
			order := append(slices.Clone(l), l[:r.IntN(len(l)+1)]...)
			r.Shuffle(len(order), func(i, k int) { order[i], order[k] = order[k], order[i] })
			for _, o := range order {
				got, ok := heard(t, "drawn", reps[i], o)
				if !ok {
					t.Fatalf("%+v is not heard", o)
				}
				reps[i] = got
			}
		}
		checkShown(t, "the operations", reps[0].Ops, reps[1].Ops)
		checkShown(t, "the clock", reps[0].Clock, reps[1].Clock)
		checkShown(t, "the document", docOf(t, reps[0]), docOf(t, reps[1]))
	}
}

// Several edit at once and hear one another late, out of turn and twice; when
// all have heard all, they have one document.
func TestReplicasEditAtOnce(t *testing.T) {
	r := rand.New(rand.NewPCG(6, 4))
	for range 60 {
		first := firstDrawn(r)
		reps := make([]impl.Replica, 2+r.IntN(3))
		for i := range reps {
			reps[i], _ = impl.Start(i, first)
		}
		var all []impl.Op
		for range 40 {
			i := r.IntN(len(reps))
			got, o, code := applied(t, "at once", reps[i], editDrawn(r, reps[i]))
			reps[i] = got
			if code == impl.EdWell {
				all = append(all, o)
			}
			for range r.IntN(3) {
				if len(all) > 0 {
					k := r.IntN(len(reps))
					reps[k], _ = heard(t, "at once", reps[k], all[r.IntN(len(all))])
				}
			}
		}
		for i := range reps {
			order := slices.Clone(all)
			r.Shuffle(len(order), func(i, k int) { order[i], order[k] = order[k], order[i] })
			for _, o := range order {
				reps[i], _ = impl.Hear(reps[i], o)
			}
			checkShown(t, "the operations", reps[i].Ops, reps[0].Ops)
			checkShown(t, "the document", docOf(t, reps[i]), docOf(t, reps[0]))
		}
		if len(reps[0].Ops) != len(all) {
			t.Fatalf("%d of %d operations", len(reps[0].Ops), len(all))
		}
	}
}

// All that one has done can be undone step by step. The first step leads back to
// what was there; a later one leaves what the steps ahead of it brought back.
func TestUndoAllTheWayBack(t *testing.T) {
	r := rand.New(rand.NewPCG(6, 5))
	for range 100 {
		rep, _ := impl.Start(r.IntN(8), firstDrawn(r))
		docs := []string{docOf(t, rep)}
		for range 12 {
			e := editDrawn(r, rep)
			got, _, code := applied(t, "alone", rep, e)
			if e.Kind == impl.EdUndo || code != impl.EdWell {
				continue
			}
			rep = got
			docs = append(docs, docOf(t, rep))
		}
		for i := len(docs) - 2; i >= 0; i-- {
			rep = done(t, rep, edUndo())
			if i == len(docs)-2 {
				checkShown(t, "undone at once", docOf(t, rep), docs[i])
			}
		}
		if undone := len(rep.Undone); undone != 2*(len(docs)-1) || undone != len(rep.Ops) {
			t.Fatalf("%d undone of %d", undone, len(rep.Ops))
		}
		checkCode(t, "and no more", rep, edUndo(), impl.EdNone)
	}
}

func TestReplicasLeaveArgumentsAlone(t *testing.T) {
	r := rand.New(rand.NewPCG(6, 6))
	for range 300 {
		plain := replicaDrawn(r)
		e, o := editDrawn(r, plain), drawnOp(r)
		if r.IntN(4) == 0 {
			plain.Clock = -1
		}
		rep, edit, op := roomyOf(plain), roomyOf(e), roomyOf(o)
		before := shown(wholeOf(rep)) + shown(wholeOf(edit)) + shown(wholeOf(op))
		impl.ReplicaOk(rep)
		begun, _ := impl.Start(plain.Id, rep.First)
		edited, told, _ := impl.Apply(rep, edit)
		after, _ := impl.Hear(rep, op)
		doc, _ := impl.Doc(rep)
		checkNewMemory(t, answer{edited, told}, rep, edit)
		checkNewMemory(t, begun, rep)
		checkNewMemory(t, after, rep, op)
		for _, got := range []*impl.Replica{&begun, &edited, &after} {
			spoilReplica(got)
		}
		spoilOp(&told)
		spoil(doc)
		if shown(wholeOf(rep))+shown(wholeOf(edit))+shown(wholeOf(op)) != before {
			t.Fatalf("an argument was written into: %+v, %+v, %+v", plain, e, o)
		}
	}
}

// spoilReplica overwrites all memory that the replica can reach.
func spoilReplica(r *impl.Replica) {
	spoilNode(&r.First)
	for i := range r.Ops {
		spoilOp(&r.Ops[i])
		r.Ops[i] = impl.Op{Kind: 9}
	}
	all := r.Undone[:cap(r.Undone)]
	for i := range all {
		all[i] = id(-9, -9)
	}
}

// Lists that are there several times in what is given are there several times
// in new memory.
func TestReplicasOfSharedLists(t *testing.T) {
	word, row := []byte("abc"), key(1, 2, 3)
	attrs := []impl.Attr{{Name: word[:1], Val: word}, {Name: word[:2], Val: word}}
	inner := impl.Node{Name: word, Attrs: attrs, Kids: []impl.Node{{Kind: 1, Text: word}, {Kind: 1, Text: word}}}
	r := holding(3, impl.Node{Name: word, Attrs: attrs, Kids: []impl.Node{inner, inner, inner}},
		impl.Op{Kind: impl.OpNew, At: id(1, 3), Key: row, Name: word},
		impl.Op{Kind: impl.OpMove, At: id(2, 3), Node: id(0, 5), Key: row},
		impl.Op{Kind: impl.OpText, At: id(3, 3), Node: id(0, 3), Text: word},
		impl.Op{Kind: impl.OpAttr, At: id(4, 3), Node: id(0, 2), Name: word[:1], Text: word})
	begun, ok := impl.Start(3, r.First)
	if !ok {
		t.Fatal("not started")
	}
	checkNewMemory(t, begun, r)
	for _, e := range []impl.Edit{
		{Kind: impl.EdNew, Name: word}, {Kind: impl.EdNew, Elem: impl.NdText, Text: word}, {Kind: impl.EdAttr, Node: id(0, 2), Name: word, Text: word},
		{Kind: impl.EdText, Node: id(0, 3), Text: word}, edMove(id(0, 2), id(1, 3), 0), edUndo(),
	} {
		checkCode(t, "shared lists", r, e, impl.EdWell)
	}
	for range 4 {
		r = done(t, r, edUndo())
	}
	for i, o := range r.Ops {
		o.At = id(i+1, 4)
		r, _ = heard(t, "shared lists", r, o)
	}
	if string(word) != "abc" || shown(row) != "[1 2 3]" {
		t.Fatalf("%s %v were written into", word, row)
	}
}

func TestReplicasDoNotReadBehindTheLength(t *testing.T) {
	r := holding(2, shed(), rowOfOps(6)...)
	r.Ops = r.Ops[:2]
	r.Clock = 2
	r.Undone = []impl.Id{id(1, 2), id(2, 2), id(1, 2), id(99, 9)}[:2]
	checkReplica(t, "cut", r, true)
	checkReplica(t, "not cut", withUndone(r, r.Undone[:3]...), false)
	got := done(t, r, edText(id(0, 8), "x"))
	checkShown(t, "behind the length", r.Ops[:6], rowOfOps(6))
	checkShown(t, "behind the length", r.Undone[:4], []impl.Id{id(1, 2), id(2, 2), id(1, 2), id(99, 9)})
	got, _ = heard(t, "cut", got, setText(id(1, 0), id(0, 8), "y"))
	if len(got.Ops) != 4 {
		t.Fatalf("%d operations", len(got.Ops))
	}
	own := holding(2, shed(), setText(id(1, 2), id(0, 8), "own"), setText(id(2, 2), id(0, 8), "too"))
	own.Undone = []impl.Id{id(2, 2), id(9, 9)}[:0]
	back := checkDone(t, "Undone behind the length", own, edUndo(), setText(noStamp, id(0, 8), "own"))
	checkShown(t, "Undone", back.Undone, []impl.Id{id(2, 2), id(3, 2)})
	row := []byte("px")
	checkDone(t, "a name cut", own, impl.Edit{Name: row[:1]}, newElem(noStamp, rootId, key(0, 500), "p"))
}

func TestReplicasOfEmptyLists(t *testing.T) {
	r := withOwn(4)
	r.Undone = []impl.Id{}
	for i, o := range r.Ops {
		r.Ops[i] = withEmptyLists(o)
	}
	checkReplica(t, "empty lists", r, true)
	for _, e := range wellEdits() {
		if e.Name == nil {
			e.Name = []byte{}
		}
		if e.Text == nil {
			e.Text = []byte{}
		}
		checkCode(t, "empty lists", r, e, impl.EdWell)
	}
	none := impl.Replica{First: elem("p"), Ops: []impl.Op{}, Undone: []impl.Id{}}
	checkReplica(t, "no operations", none, true)
	got, ok := heard(t, "empty lists", none, withEmptyLists(noAttr(id(1, 0), rootId, "a")))
	if !ok || shown(got) != shown(holding(0, elem("p"), noAttr(id(1, 0), rootId, "a"))) {
		t.Fatalf("%+v, %v", got, ok)
	}
}

func TestReplicasEndAtWhateverIsGiven(t *testing.T) {
	many := make([]impl.Op, 1<<18)
	for i := range many {
		many[i] = setText(id(i+1, 0), rootId, "")
	}
	long, wide := make([]int, 1<<20), strings.Repeat("a", 1<<20)
	for _, r := range []impl.Replica{
		holding(1, shed(), many...), withUndone(withClock(holding(1, shed()), impl.MaxClock), stamps(1<<18, 1)...),
		holding(1, shed(), move(id(1, 0), id(0, 2), rootId, long)), holding(1, shed(), setText(id(1, 0), id(0, 8), wide)),
		holding(math.MinInt, shed()), withClock(holding(1, shed()), math.MinInt),
	} {
		if impl.ReplicaOk(r) {
			t.Fatal("a replica that is far too great")
		}
		checkNothingOf(t, "far too great", r)
	}
	r := withOwn(1)
	for _, e := range []impl.Edit{edNew(rootId, 0, wide), edNewText(rootId, 0, wide), edText(id(0, 8), wide), edAttr(id(0, 2), wide, ""), edAttr(id(0, 2), "a", wide), edNoAttr(id(0, 2), wide)} {
		if got, o, code := impl.Apply(r, e); code != impl.EdForm || shown(got) != shown(impl.Replica{}) || shown(o) != shown(impl.Op{}) {
			t.Fatalf("an edit that is far too long is %d", code)
		}
	}
	for _, o := range []impl.Op{move(id(1, 0), id(0, 2), rootId, long), setText(id(1, 0), id(0, 8), wide), setAttr(id(1, 0), rootId, wide, "")} {
		if got, ok := impl.Hear(r, o); ok || shown(got) != shown(impl.Replica{}) {
			t.Fatal("an operation that is far too long is heard")
		}
	}
}

// The greatest replica that there may be: all operations within one another.
func TestReplicasAtTheLimits(t *testing.T) {
	first := elem("p", copies(elem("b"), impl.MaxParts-1)...)
	parent := id(0, impl.MaxParts)
	r, _ := impl.Start(7, first)
	for i := range impl.MaxOps - 1 {
		got, o, code := impl.Apply(r, edNew(parent, 0, "s"))
		if code != impl.EdWell || o.At != id(i+1, 7) {
			t.Fatalf("edit %d is %d", i, code)
		}
		r, parent = got, o.At
	}
	checkCode(t, "the last one that has room", r, edMove(id(1, 7), rootId, 0), impl.EdWell)
	checkCode(t, "into itself", r, edMove(id(1, 7), parent, 0), impl.EdLoop)
	last := checkDone(t, "undone", r, edUndo(), move(noStamp, parent, trashId, key(1)))
	checkReplica(t, "MaxOps", last, true)
	checkCode(t, "no room", last, edUndo(), impl.EdFull)
	docOf(t, last)
}

func TestReplicasCallsKeepNothing(t *testing.T) {
	for range 3 {
		r, _ := impl.Start(2, shed())
		one, o, _ := impl.Apply(r, edNewText(id(0, 10), 0, "x"))
		two, _, _ := impl.Apply(r, edNewText(id(0, 10), 0, "y"))
		checkShown(t, "two edits of one replica", two.Ops[0].At, one.Ops[0].At)
		checkShown(t, "the operation", o, newText(id(1, 2), id(0, 10), key(500), "x"))
		back, _, _ := impl.Apply(one, edUndo())
		checkShown(t, "the stamp", back.Ops[1].At, id(2, 2))
		got, _ := impl.Hear(r, o)
		doc, _ := impl.Doc(got)
		checkShown(t, "again", string(doc), `<body><p c="1" e="2">a<b><i><u></u></i><br></b></p>z<hr><ul>x</ul></body>`)
		for _, x := range []*impl.Replica{&r, &one, &two, &back, &got} {
			spoilReplica(x)
		}
		spoilOp(&o)
		spoil(doc)
	}
}
