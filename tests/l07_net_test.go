package tests

import (
	"fmt"
	"math"
	"math/rand/v2"
	"slices"
	"strings"
	"testing"

	"loop.example/g00353/impl"
)

func TestNetConstants(t *testing.T) {
	kinds := []int{impl.AcEdit, impl.AcDeliver, impl.AcDouble, impl.AcDrop, impl.AcBend, impl.AcSync}
	checkShown(t, "the kinds", kinds, key(0, 1, 2, 3, 4, 5))
	checkShown(t, "the limits", key(impl.MaxScript, impl.MaxNet), key(300, 300))
}

func acEdit(a int, e impl.Edit) impl.Action {
	return impl.Action{Kind: impl.AcEdit, A: a, Edit: e}
}

func acDeliver(a int) impl.Action { return impl.Action{Kind: impl.AcDeliver, A: a} }

func acDouble(a int) impl.Action { return impl.Action{Kind: impl.AcDouble, A: a} }

func acDrop(a int) impl.Action { return impl.Action{Kind: impl.AcDrop, A: a} }

func acBend(a, b int) impl.Action { return impl.Action{Kind: impl.AcBend, A: a, B: b} }

func acSync(a, b int) impl.Action { return impl.Action{Kind: impl.AcSync, A: a, B: b} }

// say puts a text at the front.
func say(a int, s string) impl.Action { return acEdit(a, edNewText(rootId, 0, s)) }

// marking is so many edits that are always well, one operation each.
func marking(a, count int) []impl.Action {
	return slices.Repeat(row(acEdit(a, edAttr(rootId, "a", "v"))), count)
}

// scriptOf joins rows of actions.
func scriptOf(rows ...[]impl.Action) []impl.Action { return slices.Concat(rows...) }

func row(l ...impl.Action) []impl.Action { return l }

// mayBeAction is read off the document in another way than the program's.
func mayBeAction(a impl.Action) bool {
	edit := shown(a.Edit) == shown(impl.Edit{})
	if a.Kind == 0 {
		edit = mayBeEdit(a.Edit)
	}
	return edit && strings.Contains(" 0 1 2 3 4 5 ", fmt.Sprintf(" %d ", a.Kind)) && uint64(a.A) < 1<<31 && uint64(a.B) < 1<<31
}

// checkAction wants Run to take just what ActionOk takes.
func checkAction(t *testing.T, what string, a impl.Action, want bool) {
	t.Helper()
	for _, x := range []impl.Action{a, roomyOf(a)} {
		if got := impl.ActionOk(x); got != want {
			t.Fatalf("%s: ActionOk(%+v) is %v", what, a, got)
		}
	}
	if got := mayBeAction(a); got != want {
		t.Fatalf("%s: mayBeAction(%+v) is %v", what, a, got)
	}
	if got := impl.Run(2, nil, row(a), true); got.Ok != want || !want && shown(got) != shown(impl.Result{}) {
		t.Fatalf("%s: Run of %+v is %+v", what, a, got)
	}
}

// goodActions are of each kind.
func goodActions() []impl.Action {
	return row(say(0, "x"), acDeliver(0), acDouble(0), acDrop(0), acBend(0, 0), acSync(0, 1))
}

func TestActionOkKinds(t *testing.T) {
	for kind, want := range map[int]bool{impl.AcEdit - 1: false, impl.AcEdit: false, impl.AcDeliver: true, impl.AcDouble: true, impl.AcDrop: true,
		impl.AcBend: true, impl.AcSync: true, impl.AcSync + 1: false, 9: false, math.MinInt: false, math.MaxInt: false, 1 << 32: false} {
		checkAction(t, "a kind alone", impl.Action{Kind: kind}, want)
		edit := acEdit(0, edNew(rootId, 0, "p"))
		edit.Kind = kind
		checkAction(t, "a kind and an edit", edit, kind == impl.AcEdit)
	}
	for _, a := range goodActions() {
		checkAction(t, "may be", a, true)
	}
}

func TestActionOkNumbers(t *testing.T) {
	for n, want := range map[int]bool{-1: false, 0: true, 1: true, 300: true, impl.MaxNum - 1: true, impl.MaxNum: true, impl.MaxNum + 1: false,
		math.MinInt: false, math.MaxInt: false, 1 << 32: false, -impl.MaxNum: false} {
		for _, a := range goodActions() {
			a.A = n
			checkAction(t, "A", a, want)
			a.A, a.B = 0, n
			checkAction(t, "B", a, want)
			a.A = impl.MaxNum + 1
			checkAction(t, "both", a, false)
			a.A = -1
			checkAction(t, "both", a, false)
			a.A = impl.MaxNum
			checkAction(t, "A at its end", a, want)
		}
	}
}

func TestActionOkEdits(t *testing.T) {
	may, mayNot := 0, 0
	for _, good := range goodEdits() {
		checkAction(t, "an edit that may be", acEdit(3, good), true)
		for _, a := range goodActions()[1:] {
			a.Edit = good
			checkAction(t, "an edit that has no place there", a, false)
		}
		for _, do := range editChanges() {
			e := good
			do(&e)
			want := mayBeEdit(e)
			checkAction(t, "a changed edit", acEdit(0, e), want)
			if want {
				may++
			} else {
				mayNot++
			}
		}
	}
	if may < 300 || mayNot < 800 {
		t.Fatalf("%d may be, %d may not", may, mayNot)
	}
}

// All but AcEdit want an edit of which each field is zero.
func TestActionOkOneFieldOfAnEdit(t *testing.T) {
	for _, a := range goodActions()[1:] {
		checkAction(t, "no edit", a, true)
		a.Edit = impl.Edit{Name: []byte{}, Text: []byte{}}
		checkAction(t, "empty lists", a, true)
		for i, e := range []impl.Edit{{Kind: 1}, {Kind: 5}, {Kind: -1}, {Node: id(1, 0)}, {Node: id(0, 1)}, {To: id(1, 0)}, {To: id(0, 1)},
			{I: 1}, {I: -1}, {Elem: 1}, {Elem: -1}, {Name: []byte("p")}, {Name: []byte{0}}, {Text: []byte("x")}, {Text: []byte{0}}, {Gone: true}} {
			a.Edit = e
			checkAction(t, fmt.Sprint("field ", i), a, false)
		}
	}
}

func TestActionOkOfMany(t *testing.T) {
	r := rand.New(rand.NewPCG(7, 1))
	changes := editChanges()
	may := 0
	for range 4000 {
		a := goodActions()[r.IntN(6)]
		switch r.IntN(4) {
		case 0:
			changes[r.IntN(len(changes))](&a.Edit)
		case 1:
			a.Kind = r.IntN(9) - 1
		}
		if r.IntN(4) == 0 {
			a.A = edgeNumbers()[r.IntN(len(edgeNumbers()))]
		}
		if r.IntN(4) == 0 {
			a.B = r.IntN(impl.MaxNum) * 2
		}
		want := mayBeAction(a)
		checkAction(t, "drawn", a, want)
		if want {
			may++
		}
	}
	if may < 1000 || may > 3000 {
		t.Fatalf("%d may be", may)
	}
}

// netAs is the net read off the document in another way than the program's: of
// each stamp a replica has the least bytes, its clock is the greatest of its
// stamps, and what is on its way is a row of noughts and ones.
type netAs struct {
	first impl.Node
	reps  []repAs
	net   []bitsAs
	codes []int
}

type repAs struct {
	has    map[impl.Id]string
	undone []impl.Id
	lost   bool
}

type bitsAs struct {
	to   int
	bits string
}

func bitsOf(b []byte) string {
	var out []byte
	for _, x := range b {
		for range 8 {
			out, x = append(out, '0'+x%2), x/2
		}
	}
	return string(out)
}

func bytesOf(bits string) []byte {
	var out []byte
	for ; bits != ""; bits = bits[8:] {
		x := byte(0)
		for i := range 8 {
			x = 2*x + bits[7-i] - '0'
		}
		out = append(out, x)
	}
	return out
}

func (m *netAs) replica(i int) impl.Replica {
	rep := m.reps[i]
	r := impl.Replica{Id: i, First: m.first, Undone: rep.undone, Lost: rep.lost}
	for at, b := range rep.has {
		o, _ := readOpAs([]byte(b))
		r.Ops, r.Clock = append(r.Ops, o), max(r.Clock, at.N)
	}
	slices.SortFunc(r.Ops, func(a, b impl.Op) int { return 8*(a.At.N-b.At.N) + a.At.Rep - b.At.Rep })
	return r
}

func (m *netAs) send(to int, b string) {
	m.net = append(m.net, bitsAs{to, bitsOf([]byte(b))})
	m.net = m.net[:min(len(m.net), 300)]
}

func (m *netAs) hear(l bitsAs) {
	b := bytesOf(l.bits)
	o, ok := readOpAs(b)
	rep := &m.reps[l.to]
	old, there := rep.has[o.At]
	switch {
	case !ok:
	case there:
		rep.has[o.At] = min(old, string(b))
	case len(rep.has) < 150:
		rep.has[o.At] = string(b)
	default:
		rep.lost = true
	}
}

func (m *netAs) tell(from, to int) {
	if from != to {
		for _, o := range m.replica(from).Ops {
			m.send(to, string(writtenOut(o)))
		}
	}
}

func (m *netAs) edit(who int, e impl.Edit) {
	r, o, code := applyAs(m.replica(who), e)
	m.codes = append(m.codes, code)
	if code != 0 {
		return
	}
	b := string(writtenOut(o))
	m.reps[who].has[o.At], m.reps[who].undone = b, r.Undone
	for to := range m.reps {
		if to != who {
			m.send(to, b)
		}
	}
}

func (m *netAs) step(a impl.Action) {
	who := a.A % len(m.reps)
	switch {
	case a.Kind == 0:
		m.edit(who, a.Edit)
	case a.Kind == 5:
		m.tell(who, a.B%len(m.reps))
	case len(m.net) > 0:
		at := a.A % len(m.net)
		l := m.net[at]
		if a.Kind == 1 || a.Kind == 3 {
			m.net = append(slices.Clone(m.net[:at]), m.net[at+1:]...)
		}
		if a.Kind == 1 || a.Kind == 2 {
			m.hear(l)
		}
		if a.Kind == 4 {
			b := a.B % len(l.bits)
			m.net[at].bits = l.bits[:b] + string('0'+'1'-l.bits[b]) + l.bits[b+1:]
		}
	}
}

func (m *netAs) empty() {
	for len(m.net) > 0 {
		m.step(acDeliver(0))
	}
}

func (m *netAs) settle() {
	m.empty()
	for i := range 2 * len(m.reps) {
		for to := range m.reps {
			m.tell(i%len(m.reps), to)
			m.empty()
		}
	}
}

func (m *netAs) result() impl.Result {
	out := impl.Result{Ok: true, Codes: m.codes, Net: len(m.net)}
	for i := range m.reps {
		r := m.replica(i)
		s, _ := foldAs(r.First, r.Ops)
		n, _ := projectAs(s)
		out.Reps, out.Docs = append(out.Reps, r), append(out.Docs, []byte(markedUp(n)))
	}
	return out
}

func newNetAs(reps int, b string) *netAs {
	m := &netAs{}
	m.first, _ = readAs(b)
	for range reps {
		m.reps = append(m.reps, repAs{has: map[impl.Id]string{}})
	}
	return m
}

func runAs(reps int, b string, script []impl.Action, settle bool) impl.Result {
	_, ok := readAs(b)
	if !ok || reps < 1 || reps > 8 || len(script) > 300 || slices.ContainsFunc(script, func(a impl.Action) bool { return !mayBeAction(a) }) {
		return impl.Result{}
	}
	m := newNetAs(reps, b)
	for _, a := range script {
		m.step(a)
	}
	if settle {
		m.settle()
	}
	return m.result()
}

// ran tells what Run does, held against runAs and against the promises.
func ran(t *testing.T, what string, reps int, b string, script []impl.Action, settle bool) impl.Result {
	t.Helper()
	want := runAs(reps, b, script, settle)
	for _, roomyToo := range []bool{false, true} {
		given, l := []byte(b), script
		if roomyToo {
			given, l = roomyOf(given), roomyOf(script)
		}
		got := impl.Run(reps, given, l, settle)
		checkShown(t, what, got, want)
		checkNewMemory(t, got, given, l)
		want = got
	}
	if want.Ok {
		checkEach(t, what, want)
	}
	if want.Ok && settle {
		checkSettled(t, what, want)
	}
	return want
}

// checkEach holds a run against promise 8.
func checkEach(t *testing.T, what string, got impl.Result) {
	t.Helper()
	for i, r := range got.Reps {
		if !impl.ReplicaOk(r) || r.Id != i {
			t.Fatalf("%s: %+v is not ReplicaOk", what, r)
		}
		checkShown(t, what+": a document", string(got.Docs[i]), docOf(t, r))
		for k, other := range got.Reps[:i] {
			if shown(r.Ops) == shown(other.Ops) {
				checkShown(t, what+": the same operations", string(got.Docs[i]), string(got.Docs[k]))
			}
		}
	}
}

func isLost(got impl.Result) bool {
	return slices.ContainsFunc(got.Reps, func(r impl.Replica) bool { return r.Lost })
}

// checkSettled holds a run against promise 9.
func checkSettled(t *testing.T, what string, got impl.Result) {
	t.Helper()
	checkShown(t, what+": the net", got.Net, 0)
	if isLost(got) {
		return
	}
	for i, r := range got.Reps {
		checkShown(t, what+": the operations", r.Ops, got.Reps[0].Ops)
		checkShown(t, what+": the clock", r.Clock, got.Reps[0].Clock)
		checkShown(t, what+": the document", string(got.Docs[i]), string(got.Docs[0]))
	}
}

func docsOf(got impl.Result) []string {
	var out []string
	for _, doc := range got.Docs {
		out = append(out, string(doc))
	}
	return out
}

// checkDocs wants these documents; body is left away in them.
func checkDocs(t *testing.T, what string, got impl.Result, want ...string) {
	t.Helper()
	for i := range want {
		want[i] = "<body>" + want[i] + "</body>"
	}
	checkShown(t, what+": the documents", fmt.Sprintf("%q", docsOf(got)), fmt.Sprintf("%q", want))
}

// checkNoRun wants the zero value, settled or not.
func checkNoRun(t *testing.T, what string, reps int, b string, script []impl.Action) {
	t.Helper()
	for _, settle := range []bool{false, true} {
		if got := ran(t, what, reps, b, script, settle); shown(got) != shown(impl.Result{}) {
			t.Fatalf("%s: Run is %+v", what, got)
		}
	}
}

func TestRunOfWhatBuildDoesNotTake(t *testing.T) {
	for _, b := range []string{strings.Repeat("x", impl.MaxMarkup+1), strings.Repeat("<p></p>", impl.MaxParts), strings.Repeat("<p>", impl.MaxDeep),
		strings.Repeat(" ", 1<<16)} {
		checkNoRun(t, "text that Build does not take", 2, b, nil)
		checkNoRun(t, "text that Build does not take", 2, b, row(say(0, "x")))
	}
	for _, b := range []string{strings.Repeat("x", impl.MaxMarkup), strings.Repeat("<p></p>", impl.MaxParts-1), strings.Repeat("<p>", impl.MaxDeep-1),
		"", "<", "</body>", "<br>", "\x00\xff", "<BODY a=1>&lt;"} {
		if !ran(t, "text that Build takes", 2, b, row(say(0, "x")), true).Ok {
			t.Fatalf("Run of %q is not Ok", b)
		}
	}
}

func TestRunReps(t *testing.T) {
	for _, reps := range []int{-1, 0, impl.MaxReps + 1, -8, math.MinInt, math.MaxInt, 1 << 32} {
		checkNoRun(t, "that many replicas", reps, "", nil)
		checkNoRun(t, "that many replicas", reps, "<p>x", goodActions())
	}
	for reps := 1; reps <= impl.MaxReps; reps++ {
		for _, settle := range []bool{false, true} {
			if got := ran(t, "that many replicas", reps, "<p>x", goodActions(), settle); len(got.Reps) != reps || len(got.Docs) != reps || len(got.Codes) != 1 {
				t.Fatalf("%d replicas: %+v", reps, got)
			}
		}
	}
}

func TestRunScripts(t *testing.T) {
	for _, count := range []int{0, 1, impl.MaxScript - 1, impl.MaxScript, impl.MaxScript + 1, impl.MaxScript + 2, 1000} {
		for _, a := range []impl.Action{acDrop(0), acSync(0, 1), acEdit(1, edUndo())} {
			script := slices.Repeat(row(a), count)
			if count > impl.MaxScript {
				checkNoRun(t, "too many actions", 2, "", script)
			} else if got := ran(t, "so many actions", 2, "", script, true); !got.Ok || a.Kind == impl.AcEdit && len(got.Codes) != count {
				t.Fatalf("%d actions: %+v", count, got)
			}
		}
	}
	for _, wrong := range []impl.Action{{}, {Kind: 6}, {Kind: -1}, {Kind: 1, A: -1}, {Kind: 5, B: -1}, {Kind: 2, A: impl.MaxNum + 1}, {Kind: 4, B: impl.MaxNum + 1},
		{Kind: 3, Edit: edUndo()}, acEdit(0, edNew(rootId, 0, "P")), acEdit(0, edText(id(0, 122), ""))} {
		for at := range 7 {
			checkNoRun(t, "one action may not be", 3, "<p>x", slices.Insert(goodActions(), at, wrong))
		}
		checkNoRun(t, "alone", 3, "<p>x", row(wrong))
		checkNoRun(t, "the last of MaxScript", 3, "<p>x", append(slices.Repeat(row(acDrop(0)), impl.MaxScript-1), wrong))
	}
}

func TestRunOfNoScript(t *testing.T) {
	for reps := 1; reps <= impl.MaxReps; reps++ {
		for _, settle := range []bool{false, true} {
			for _, script := range [][]impl.Action{nil, {}} {
				got := ran(t, "no script", reps, "<p a=1>x<br>", script, settle)
				want := impl.Result{Ok: true}
				for i := range reps {
					want.Reps = append(want.Reps, impl.Replica{Id: i, First: body(withAttrs(elem("p", text("x"), elem("br")), "a", "1"))})
					want.Docs = append(want.Docs, []byte(`<body><p a="1">x<br></p></body>`))
				}
				checkShown(t, "no script", got, want)
			}
		}
	}
}

// Each kind of action does nothing where there is nothing in the net, and says
// nothing of what follows.
func TestRunOfAnEmptyNet(t *testing.T) {
	for _, a := range append(goodActions()[1:], acDeliver(impl.MaxNum), acBend(impl.MaxNum, impl.MaxNum), acBend(0, 1), acSync(1, 0), acSync(1, 1), acDrop(7)) {
		got := ran(t, "an empty net", 2, "<p>", slices.Repeat(row(a), 3), false)
		checkDocs(t, "an empty net", got, "<p></p>", "<p></p>")
		checkShown(t, "an empty net", got, ran(t, "no script", 2, "<p>", nil, false))
		got = ran(t, "an empty net, then an edit", 2, "<p>", row(a, say(0, "x"), acDeliver(0), a, say(1, "y")), false)
		if a.Kind != impl.AcSync {
			checkDocs(t, "an empty net, then an edit", got, "x<p></p>", "yx<p></p>")
			checkShown(t, "what is in the net", got.Net, 1)
		}
	}
}

func TestRunEditModulo(t *testing.T) {
	for reps := 1; reps <= impl.MaxReps; reps++ {
		for _, a := range []int{0, 1, reps - 1, reps, reps + 1, 2*reps - 1, 2 * reps, 1000, impl.MaxNum} {
			got := ran(t, "A modulo", reps, "", row(say(a, "x")), false)
			for i, r := range got.Reps {
				var want []impl.Op
				if i == a%reps {
					want = []impl.Op{newText(id(1, i), rootId, key(500), "x")}
				}
				checkShown(t, "A modulo", r.Ops, want)
			}
			checkShown(t, "A modulo: the net", got.Net, reps-1)
			edit := say(a, "x")
			edit.B = impl.MaxNum
			checkShown(t, "B is of no weight", ran(t, "with B", reps, "", row(edit), false), got)
		}
	}
	if impl.MaxNum%3 != 1 {
		t.Fatal("MaxNum")
	}
	checkDocs(t, "MaxNum", ran(t, "MaxNum", 3, "", row(say(impl.MaxNum, "x")), false), "", "x", "")
}

// What one does goes to each other one, in order.
func TestRunEditIsSent(t *testing.T) {
	for reps := 1; reps <= impl.MaxReps; reps++ {
		for who := range reps {
			others := slices.DeleteFunc([]int{0, 1, 2, 3, 4, 5, 6, 7}[:reps], func(i int) bool { return i == who })
			script := row(say(who, "x"))
			docs := slices.Repeat([]string{""}, reps)
			docs[who] = "x"
			for i, other := range others {
				got := ran(t, "sent", reps, "", script, false)
				checkShown(t, "the net", got.Net, len(others)-i)
				checkDocs(t, "sent", got, slices.Clone(docs)...)
				script = append(script, acDeliver(0))
				docs[other] = "x"
			}
			got := ran(t, "all heard", reps, "", script, false)
			checkShown(t, "the net", got.Net, 0)
			checkDocs(t, "all heard", got, docs...)
		}
	}
}

// Whatever the code is, it goes behind Codes; only what is well is sent.
func TestRunCodes(t *testing.T) {
	type line struct {
		what   string
		script []impl.Action
		codes  []int
		net    int
	}
	p, x := id(0, 2), id(0, 3)
	twins := row(say(0, "a"), say(1, "b"), acDeliver(0), acDeliver(0))
	for _, row := range []line{
		{"each kind, well", row(acEdit(0, edNew(p, 0, "b")), acEdit(0, edMove(x, rootId, 0)), acEdit(1, edDrop(p)), acEdit(0, edText(x, "y")), acEdit(1, edAttr(p, "a", "")), acEdit(0, edUndo())), key(0, 0, 0, 0, 2, 0), 5},
		{"EdNone", row(acEdit(0, edDrop(rootId)), acEdit(1, edDrop(trashId)), acEdit(0, edUndo()), acEdit(1, edText(p, "x")), acEdit(1, edNew(id(1, 0), 0, "b"))), key(2, 2, 2, 2, 2), 0},
		{"EdLoop", row(acEdit(0, edMove(p, p, 0))), key(3), 0},
		{"EdRange", row(acEdit(0, edNew(rootId, 2, "b")), acEdit(1, edNew(rootId, -1, "b")), acEdit(1, edMove(x, rootId, 2))), key(4, 4, 4), 0},
		{"EdKey", scriptOf(twins, row(acEdit(0, edNew(rootId, 1, "b")), acEdit(1, edNew(rootId, 1, "b")), acEdit(1, edNew(rootId, 0, "b")))), key(0, 0, 5, 5, 0), 1},
		{"in their order", row(acEdit(0, edMove(p, p, 0)), say(0, "x"), acEdit(1, edNew(rootId, 9, "b")), acEdit(0, edUndo()), acEdit(0, edUndo()), say(1, "y")), key(3, 0, 4, 0, 2, 0), 3},
		{"no others count", scriptOf(row(acDeliver(0), acSync(0, 1), acDrop(0), acDouble(0), acBend(0, 0))), nil, 0},
	} {
		got := ran(t, row.what, 2, "<p>x", row.script, false)
		checkShown(t, row.what+": Codes", got.Codes, row.codes)
		checkShown(t, row.what+": Net", got.Net, row.net)
		checkShown(t, row.what+": Codes, settled", ran(t, row.what, 2, "<p>x", row.script, true).Codes, row.codes)
	}
	full := scriptOf(marking(0, 60), row(acEdit(0, edUndo())), marking(0, impl.MaxOps-61), row(say(0, "y"), acEdit(0, edUndo()), say(0, "z")))
	codes := slices.Concat(slices.Repeat(key(0), impl.MaxOps), key(6, 6, 6))
	got := ran(t, "EdFull", 1, "", full, false)
	checkShown(t, "EdFull", got.Codes, codes)
	checkShown(t, "EdFull: none is lost by it", got.Reps[0].Lost, false)
	got = ran(t, "EdFull", 2, "", full, false)
	checkShown(t, "EdFull: the net", key(got.Net, len(got.Reps[0].Ops)), key(impl.MaxOps, impl.MaxOps))
}

// A replica alone edits and undoes, and nothing is ever sent.
func TestRunAlone(t *testing.T) {
	script := row(say(0, "a"), acSync(0, 0), acSync(3, 8), acEdit(5, edNew(rootId, 1, "b")), acDeliver(0), acEdit(impl.MaxNum, edUndo()), acDouble(3), acBend(1, 1), acDrop(2))
	for _, settle := range []bool{false, true} {
		got := ran(t, "alone", 1, "<p>", script, settle)
		checkDocs(t, "alone", got, "a<p></p>")
		checkShown(t, "alone", key(got.Net, len(got.Codes), len(got.Reps[0].Ops)), key(0, 3, 3))
	}
}

// three are three texts of replica 0, all on their way to replica 1.
func three() []impl.Action { return row(say(0, "a"), say(0, "b"), say(0, "c")) }

// What replica 1 hears of the three tells which one it was.
func TestRunDeliver(t *testing.T) {
	for _, line := range []struct {
		places []int
		want   string
	}{
		{key(0), "a"}, {key(1), "b"}, {key(2), "c"}, {key(3), "a"}, {key(4), "b"}, {key(5), "c"}, {key(299), "c"}, {key(300), "a"}, {key(impl.MaxNum), "b"},
		{key(0, 0), "ba"}, {key(0, 1), "ca"}, {key(1, 0), "ba"}, {key(1, 1), "cb"}, {key(2, 0), "ca"}, {key(2, 1), "cb"}, {key(2, 2), "ca"}, {key(1, 2), "ba"}, {key(0, 3), "ca"},
		{key(0, 0, 0), "cba"}, {key(5, 3, 1), "cba"}, {key(1, 1, impl.MaxNum), "cba"}, {key(0, 0, 0, 0), "cba"}, {key(2, 1, 0, 5, 7), "cba"},
	} {
		script := three()
		for _, a := range line.places {
			deliver := acDeliver(a)
			deliver.B = a
			script = append(script, deliver)
		}
		got := ran(t, "delivered", 2, "", script, false)
		checkDocs(t, fmt.Sprint("delivered ", line.places), got, "cba", line.want)
		checkShown(t, "the net", got.Net, max(0, 3-len(line.places)))
		checkDocs(t, "settled", ran(t, "settled", 2, "", script, true), "cba", "cba")
	}
}

func TestRunDouble(t *testing.T) {
	for _, line := range []struct {
		what string
		more []impl.Action
		want string
		net  int
	}{
		{"the first", row(acDouble(0)), "a", 3},
		{"the second", row(acDouble(1)), "b", 3},
		{"the last", row(acDouble(2)), "c", 3},
		{"just as many", row(acDouble(3)), "a", 3},
		{"MaxNum", row(acDouble(impl.MaxNum)), "b", 3},
		{"again and again", row(acDouble(1), acDouble(1), acDouble(1)), "b", 3},
		{"it stays where it is", row(acDouble(1), acDeliver(0), acDeliver(0)), "ba", 1},
		{"and is heard again", row(acDouble(1), acDeliver(1)), "b", 2},
		{"and goes then", row(acDouble(1), acDeliver(1), acDeliver(1)), "cb", 1},
		{"all of them", row(acDouble(0), acDouble(1), acDouble(2), acDouble(3)), "cba", 3},
		{"heard and thrown away", row(acDouble(2), acDrop(2), acDeliver(2)), "ca", 1},
	} {
		got := ran(t, line.what, 2, "", append(three(), line.more...), false)
		checkDocs(t, line.what, got, "cba", line.want)
		checkShown(t, line.what+": the net", got.Net, line.net)
	}
}

func TestRunDrop(t *testing.T) {
	for _, line := range []struct {
		what string
		more []impl.Action
		want string
		net  int
	}{
		{"the first", row(acDrop(0)), "", 2},
		{"the first, the others come", row(acDrop(0), acDeliver(0), acDeliver(0)), "cb", 0},
		{"the second, the others come", row(acDrop(1), acDeliver(0), acDeliver(0)), "ca", 0},
		{"the last, the others come", row(acDrop(2), acDeliver(0), acDeliver(0)), "ba", 0},
		{"just as many", row(acDrop(3), acDeliver(0), acDeliver(0)), "cb", 0},
		{"MaxNum", row(acDrop(impl.MaxNum), acDeliver(0), acDeliver(0)), "ca", 0},
		{"the others stay in order", row(acDrop(1), acDeliver(1)), "c", 1},
		{"all of them", row(acDrop(0), acDrop(0), acDrop(0), acDrop(0), acDeliver(0)), "", 0},
		{"from the end", row(acDrop(2), acDrop(1), acDeliver(7)), "a", 0},
	} {
		got := ran(t, line.what, 2, "", append(three(), line.more...), false)
		checkDocs(t, line.what, got, "cba", line.want)
		checkShown(t, line.what+": the net", got.Net, line.net)
		checkDocs(t, line.what+": settled", ran(t, line.what, 2, "", append(three(), line.more...), true), "cba", "cba")
	}
}

// hi makes the operation 02 01 00 00 03 01 78 of <p>a</p>: it is 56 bits, and
// what one of them that is turned makes of it is told by hand.
func hi() impl.Action { return acEdit(0, edText(id(0, 3), "x")) }

func TestRunBend(t *testing.T) {
	b, _ := impl.OpBytes(setText(id(1, 0), id(0, 3), "x"))
	checkShown(t, "the bytes", fmt.Sprintf("% x", b), "02 01 00 00 03 01 78")
	heardAs := map[int]impl.Op{48: setText(id(1, 0), id(0, 3), "y"), 49: setText(id(1, 0), id(0, 3), "z"), 50: setText(id(1, 0), id(0, 3), "|"),
		51: setText(id(1, 0), id(0, 3), "p"), 52: setText(id(1, 0), id(0, 3), "h"), 53: setText(id(1, 0), id(0, 3), "X"), 54: setText(id(1, 0), id(0, 3), "8")}
	for i, n := range key(3, 5, 9, 17, 33, 65) {
		heardAs[9+i] = setText(id(n, 0), id(0, 3), "x")
		heardAs[25+i] = setText(id(1, 0), id(1<<(1+i), 3), "x")
	}
	for i, n := range key(1, 2, 4) {
		heardAs[16+i] = setText(id(1, n), id(0, 3), "x")
	}
	heardAs[24] = setText(id(1, 0), id(1, 3), "x")
	for i, n := range key(2, 1, 7, 11, 19, 35, 67) {
		heardAs[32+i] = setText(id(1, 0), id(0, n), "x")
	}
	for bit := range 56 {
		for _, b := range []int{bit, bit + 56, bit + 560, bit + 56*38347921} {
			got := ran(t, "bent", 2, "<p>a</p>", row(hi(), acBend(0, b), acDeliver(0)), false)
			var want []impl.Op
			if o, there := heardAs[bit]; there {
				want = []impl.Op{o}
			}
			checkShown(t, fmt.Sprint("bit ", b), got.Reps[1].Ops, want)
			checkShown(t, "its own", got.Reps[0].Ops, []impl.Op{setText(id(1, 0), id(0, 3), "x")})
			checkShown(t, "the net", got.Net, 0)
			if len(want) > 0 {
				checkShown(t, "the clock", got.Reps[1].Clock, want[0].At.N)
			}
		}
	}
	checkDocs(t, "MaxNum is bit 15", ran(t, "MaxNum", 2, "<p>a</p>", row(hi(), acBend(0, impl.MaxNum), acDeliver(0)), false), "<p>x</p>", "<p>a</p>")
	checkDocs(t, "MaxNum - 15 is bit 0", ran(t, "MaxNum", 2, "<p>a</p>", row(hi(), acBend(0, impl.MaxNum-15), acBend(0, 0), acDeliver(0)), false), "<p>x</p>", "<p>x</p>")
}

func TestRunBendAgain(t *testing.T) {
	for bit := range 60 {
		got := ran(t, "turned twice", 2, "<p>a</p>", row(hi(), acBend(0, bit), acBend(0, bit), acDeliver(0)), false)
		checkDocs(t, "turned twice", got, "<p>x</p>", "<p>x</p>")
		checkShown(t, "turned twice", got.Reps[1].Ops, got.Reps[0].Ops)
	}
	for _, line := range []struct {
		what string
		more []impl.Action
		docs []string
		net  int
	}{
		{"not heard by it", row(acBend(0, 48)), []string{"x", "a", "a"}, 2},
		{"the first alone", row(acBend(0, 48), acDeliver(0), acDeliver(0)), []string{"x", "y", "x"}, 0},
		{"the second alone", row(acBend(1, 48), acDeliver(0), acDeliver(0)), []string{"x", "x", "y"}, 0},
		{"A at just as many", row(acBend(2, 48), acDeliver(0), acDeliver(0)), []string{"x", "y", "x"}, 0},
		{"A at MaxNum", row(acBend(impl.MaxNum, 48), acDeliver(0), acDeliver(0)), []string{"x", "x", "y"}, 0},
		{"it stays where it is", row(acBend(0, 48), acDeliver(1)), []string{"x", "a", "x"}, 1},
		{"two bits", row(acBend(0, 48), acBend(0, 49), acDeliver(0)), []string{"x", "{", "a"}, 1},
		{"what was heard stays, the greater goes by", row(acDouble(0), acBend(0, 48), acDeliver(0)), []string{"x", "x", "a"}, 1},
		{"what was heard gives way to the less", row(acDouble(0), acBend(0, 51), acDeliver(0)), []string{"x", "p", "a"}, 1},
		{"what was heard is not bent", row(acDouble(0), acBend(0, 51)), []string{"x", "x", "a"}, 2},
		{"no more to be read, then again", row(acBend(0, 55), acDouble(0), acBend(0, 55), acDeliver(0)), []string{"x", "x", "a"}, 1},
	} {
		got := ran(t, line.what, 3, "<p>a</p>", append(row(hi()), line.more...), false)
		for i, doc := range line.docs {
			line.docs[i] = "<p>" + doc + "</p>"
		}
		checkDocs(t, line.what, got, line.docs...)
		checkShown(t, line.what+": the net", got.Net, line.net)
	}
	got := ran(t, "bent and settled", 3, "<p>a</p>", row(hi(), acBend(0, 48)), true)
	checkDocs(t, "the less stays everywhere", got, "<p>x</p>", "<p>x</p>", "<p>x</p>")
	got = ran(t, "bent and settled", 3, "<p>a</p>", row(hi(), acBend(1, 51)), true)
	checkDocs(t, "the less comes everywhere", got, "<p>p</p>", "<p>p</p>", "<p>p</p>")
	got = ran(t, "bent and settled", 3, "<p>a</p>", row(hi(), acBend(0, 11)), true)
	checkShown(t, "another stamp comes everywhere", got.Reps[2].Ops, []impl.Op{setText(id(1, 0), id(0, 3), "x"), setText(id(9, 0), id(0, 3), "x")})
}

// bentTo turns bits of the first one in the net, until its bytes are others.
func bentTo(from, to []byte) []impl.Action {
	var out []impl.Action
	a, b := bitsOf(from), bitsOf(to)
	for i := range a {
		if a[i] != b[i] {
			out = append(out, acBend(0, i))
		}
	}
	return out
}

// told is a script by which replica 1 hears of <p>a</p> an operation that nobody
// did.
func told(t *testing.T, o impl.Op) []impl.Action {
	t.Helper()
	want := writtenOut(o)
	for size := range 20 {
		from := writtenOut(newText(id(1, 0), rootId, key(0, 500), strings.Repeat("x", size)))
		if len(from) == len(want) {
			return scriptOf(row(say(0, strings.Repeat("x", size))), bentTo(from, want), row(acDeliver(0)))
		}
	}
	t.Fatalf("%+v has not as many bytes as a text", o)
	return nil
}

// Bits that are turned make stamps of all kinds, those of whoever hears them
// among them.
func TestRunOfWhatNobodyDid(t *testing.T) {
	top := setText(id(impl.MaxClock, 3), id(0, 3), "vwxyz")
	got := ran(t, "the last stamp", 2, "<p>a</p>", append(told(t, top), say(1, "y"), acEdit(1, edUndo()), say(0, "z")), false)
	checkShown(t, "EdClock", got.Codes, key(0, impl.EdClock, impl.EdNone, 0))
	checkShown(t, "the clocks", key(got.Reps[0].Clock, got.Reps[1].Clock, got.Net), key(2, impl.MaxClock, 1))
	got = ran(t, "the last stamp, settled", 3, "<p>a</p>", told(t, top), true)
	checkShown(t, "the clock comes everywhere", key(got.Reps[0].Clock, got.Reps[1].Clock, got.Reps[2].Clock), key(impl.MaxClock, impl.MaxClock, impl.MaxClock))
	own := setText(id(130, 1), id(0, 3), "wordy1")
	got = ran(t, "a stamp of one's own", 2, "<p>a</p>", append(told(t, own), say(1, "y"), acEdit(1, edUndo()), acEdit(1, edUndo()), acEdit(1, edUndo())), false)
	checkShown(t, "one's own", got.Codes, key(0, 0, 0, 0, impl.EdNone))
	checkShown(t, "its stamps", []impl.Id{got.Reps[1].Ops[1].At, got.Reps[1].Ops[2].At, got.Reps[1].Ops[3].At}, []impl.Id{id(131, 1), id(132, 1), id(133, 1)})
	checkDocs(t, "what nobody did is undone", got, "x<p>a</p>", "<p>a</p>")
	got = ran(t, "above MaxClock", 2, "<p>a</p>", told(t, setText(id(impl.MaxClock+1, 3), id(0, 3), "vwxyz")), false)
	checkShown(t, "above MaxClock", len(got.Reps[1].Ops), 0)
	got = ran(t, "the root into itself", 2, "<p>a</p>", told(t, move(id(9, 5), rootId, id(0, 2), key(130, 700, 1))), true)
	checkDocs(t, "the root stays", got, "x<p>a</p>", "x<p>a</p>")
}

func TestRunSync(t *testing.T) {
	// Replica 1 has its own and, behind the second one, replica 0's.
	begun := row(say(1, "b"), acDrop(0), acDrop(0), say(0, "a"), acDrop(1), acDeliver(0))
	for _, line := range []struct {
		what string
		more []impl.Action
		docs []string
		net  int
	}{
		{"none yet", nil, []string{"a", "ab", ""}, 0},
		{"to another one", row(acSync(1, 2)), []string{"a", "ab", ""}, 2},
		{"in order: the first", row(acSync(1, 2), acDeliver(0)), []string{"a", "ab", "a"}, 1},
		{"in order: the second", row(acSync(1, 2), acDeliver(1)), []string{"a", "ab", "b"}, 1},
		{"to the first", row(acSync(1, 0), acDeliver(1), acDeliver(0)), []string{"ab", "ab", ""}, 0},
		{"from the first", row(acSync(0, 2), acDeliver(0)), []string{"a", "ab", "a"}, 0},
		{"to itself", row(acSync(1, 1)), []string{"a", "ab", ""}, 0},
		{"to itself, beyond", row(acSync(1, 4), acSync(4, 1), acSync(3, 0), acSync(0, 300), acSync(impl.MaxNum, impl.MaxNum)), []string{"a", "ab", ""}, 0},
		{"of one without operations", row(acSync(2, 0), acSync(2, 1), acSync(2, 2)), []string{"a", "ab", ""}, 0},
		{"A at just as many", row(acSync(3, 2), acDeliver(0)), []string{"a", "ab", "a"}, 0},
		{"A at MaxNum", row(acSync(impl.MaxNum, 2), acDeliver(1)), []string{"a", "ab", "b"}, 1},
		{"B at just as many", row(acSync(1, 3), acDeliver(1)), []string{"ab", "ab", ""}, 1},
		{"B beyond", row(acSync(1, 302), acDeliver(1)), []string{"a", "ab", "b"}, 1},
		{"B at MaxNum", row(acSync(0, impl.MaxNum), acDeliver(0)), []string{"a", "ab", ""}, 0},
		{"twice", row(acSync(1, 2), acSync(1, 2), acDeliver(3), acDeliver(2)), []string{"a", "ab", "ab"}, 2},
		{"what is passed on", row(acSync(1, 2), acDeliver(0), acDeliver(0), acSync(2, 0), acDeliver(1)), []string{"ab", "ab", "ab"}, 1},
		{"behind what is there", row(say(0, "c"), acSync(1, 2), acDeliver(1)), []string{"ca", "ab", "c"}, 3},
		{"settled", row(acSync(0, 1), acSync(1, 2)), []string{"a", "ab", ""}, 3},
	} {
		got := ran(t, line.what, 3, "", append(slices.Clone(begun), line.more...), false)
		checkDocs(t, line.what, got, slices.Clone(line.docs)...)
		checkShown(t, line.what+": the net", got.Net, line.net)
	}
	ran(t, "settled", 3, "", begun, true)
}

// stampsOf are what a replica has.
func stampsOf(r impl.Replica) []impl.Id {
	var out []impl.Id
	for _, o := range r.Ops {
		out = append(out, o.At)
	}
	return out
}

// MaxNet are there after 42 edits that go to seven each, and six of the next.
func TestRunFullNetByEdits(t *testing.T) {
	for edits, net := range map[int]int{1: 7, 42: 294, 43: 300, 44: 300, 100: 300, impl.MaxOps: 300} {
		got := ran(t, "edits", impl.MaxReps, "", marking(0, edits), false)
		checkShown(t, fmt.Sprint(edits, " edits"), key(got.Net, len(got.Reps[0].Ops), len(got.Codes)), key(net, edits, edits))
		checkShown(t, "the codes are well", slices.Max(got.Codes), impl.EdWell)
	}
	for at, want := range map[int]struct {
		rep int
		at  impl.Id
	}{0: {1, id(1, 0)}, 6: {7, id(1, 0)}, 7: {1, id(2, 0)}, 293: {7, id(42, 0)}, 294: {1, id(43, 0)}, 298: {5, id(43, 0)}, 299: {6, id(43, 0)}, 300: {1, id(1, 0)}, 599: {6, id(43, 0)}} {
		got := ran(t, "one of them", impl.MaxReps, "", append(marking(0, 50), acDeliver(at)), false)
		checkShown(t, fmt.Sprint(at, " of a full net"), stampsOf(got.Reps[want.rep]), []impl.Id{want.at})
		checkShown(t, "the net", got.Net, 299)
	}
	two := ran(t, "just MaxNet", 2, "", append(marking(0, impl.MaxOps), marking(1, impl.MaxOps)...), false)
	checkShown(t, "just MaxNet", two.Net, impl.MaxNet)
	got := ran(t, "room for one", impl.MaxReps, "", append(marking(0, 50), acDrop(3), acEdit(5, edNew(rootId, 0, "p")), acDeliver(299)), false)
	checkShown(t, "it goes to the first other one alone", stampsOf(got.Reps[0])[0], id(1, 0))
	checkShown(t, "it is the last one", got.Reps[0].Ops[1].At, id(1, 5))
}

func TestRunFullNetBySync(t *testing.T) {
	full := append(marking(0, 100), acSync(0, 2))
	for _, line := range []struct {
		what   string
		more   []impl.Action
		net    int
		second []impl.Id
		third  []impl.Id
	}{
		{"just full", nil, 300, nil, nil},
		{"nothing more", row(acSync(0, 1), acSync(0, 2)), 300, nil, nil},
		{"the last one", row(acSync(0, 1), acDeliver(299)), 299, nil, []impl.Id{id(100, 0)}},
		{"the first one", row(acSync(0, 1), acDeliver(0)), 299, []impl.Id{id(1, 0)}, nil},
		{"room for one", row(acDeliver(299), acSync(0, 1)), 300, nil, []impl.Id{id(100, 0)}},
		{"the first one of all", row(acDeliver(299), acSync(0, 1), acDeliver(299)), 299, []impl.Id{id(1, 0)}, []impl.Id{id(100, 0)}},
		{"room for two", row(acDrop(0), acDrop(0), acSync(0, 1), acDeliver(299)), 299, []impl.Id{id(2, 0)}, nil},
		{"an edit, too", row(acDrop(0), acEdit(0, edNew(rootId, 0, "p")), acDeliver(299)), 299, []impl.Id{id(101, 0)}, nil},
	} {
		got := ran(t, line.what, 3, "", append(slices.Clone(full), line.more...), false)
		checkShown(t, line.what+": the net", got.Net, line.net)
		checkShown(t, line.what+": the second one", stampsOf(got.Reps[1]), line.second)
		checkShown(t, line.what+": the third one", stampsOf(got.Reps[2]), line.third)
	}
	got := ran(t, "MaxOps twice", 2, "", append(marking(0, impl.MaxOps), acSync(0, 1), acSync(0, 1), acDeliver(299)), false)
	checkShown(t, "MaxOps twice", key(got.Net, got.Reps[1].Ops[0].At.N), key(299, impl.MaxOps))
}

// Whatever the net had no room for comes where it is settled: it is emptied
// ahead of each telling, so that there is room for all.
func TestRunSettledWhenTheNetWasFull(t *testing.T) {
	for _, line := range []struct {
		reps, edits int
	}{{2, 150}, {3, 150}, {4, 100}, {4, 101}, {5, 76}, {8, 42}, {8, 43}, {8, 44}, {8, 149}, {8, 150}} {
		for _, who := range []int{0, line.reps - 1} {
			got := ran(t, "one edits", line.reps, "<p>", marking(who, line.edits), true)
			for _, r := range got.Reps {
				checkShown(t, "all have all", stampsOf(r), stamps(line.edits, who))
				checkShown(t, "none is Lost", r.Lost, false)
			}
		}
	}
	var script []impl.Action
	for i := range impl.MaxOps {
		script = append(script, marking(i, 1)...)
	}
	got := ran(t, "all edit", impl.MaxReps, "<p>", script, true)
	checkShown(t, "all have all", key(len(got.Reps[0].Ops), len(got.Reps[7].Ops)), key(impl.MaxOps, impl.MaxOps))
	full := append(marking(0, 100), acSync(0, 2), acSync(0, 1), acBend(0, 7), acBend(299, 7))
	got = ran(t, "a full net", 3, "", full, true)
	checkShown(t, "a full net", key(len(got.Reps[1].Ops), len(got.Reps[2].Ops)), key(100, 100))
}

func TestRunLost(t *testing.T) {
	last := func(a int, s string) []impl.Action { return row(acEdit(a, edAttr(rootId, "a", s))) }
	fits := scriptOf(marking(0, 74), last(0, "zero"), marking(1, 74), last(1, "one"))
	for _, settle := range []bool{true, false} {
		got := ran(t, "just MaxOps", 2, "", fits, settle)
		checkShown(t, "none is Lost", isLost(got), false)
	}
	checkShown(t, "just MaxOps", docsOf(ran(t, "just MaxOps", 2, "", fits, true)), []string{`<body a="one"></body>`, `<body a="one"></body>`})
	script := scriptOf(marking(0, 75), last(0, "zero"), marking(1, 74), last(1, "one"))
	got := ran(t, "one too many", 2, "", script, true)
	checkShown(t, "both are Lost", fmt.Sprint(got.Reps[0].Lost, got.Reps[1].Lost), "true true")
	checkShown(t, "what has no room stays away", docsOf(got), []string{`<body a="zero"></body>`, `<body a="one"></body>`})
	checkShown(t, "clocks", key(got.Reps[0].Clock, got.Reps[1].Clock), key(76, 75))
	checkShown(t, "the net", got.Net, 0)
	got = ran(t, "not settled", 2, "", script, false)
	checkShown(t, "none is Lost yet", fmt.Sprint(isLost(got), got.Net), "false 151")
	got = ran(t, "heard by one", 2, "", append(script, slices.Repeat(row(acDouble(150)), 2)...), false)
	checkShown(t, "none is Lost yet", isLost(got), false)
	got = ran(t, "heard by one", 2, "", append(script, slices.Repeat(row(acDeliver(76)), 74)...), false)
	checkShown(t, "none is Lost yet", isLost(got), false)
	got = ran(t, "heard by one", 2, "", append(script, slices.Repeat(row(acDeliver(76)), 75)...), false)
	checkShown(t, "one is Lost", fmt.Sprint(got.Reps[0].Lost, got.Reps[1].Lost), "true false")
	got = ran(t, "three", 3, "", script, true)
	checkShown(t, "three", fmt.Sprint(got.Reps[0].Lost, got.Reps[1].Lost, got.Reps[2].Lost), "true true true")
	far := scriptOf(marking(0, impl.MaxOps), marking(1, impl.MaxOps))
	got = ran(t, "twice MaxOps", 2, "", far, true)
	checkShown(t, "each keeps its own", fmt.Sprint(stampsOf(got.Reps[0]), stampsOf(got.Reps[1])), fmt.Sprint(stamps(impl.MaxOps, 0), stamps(impl.MaxOps, 1)))
}

func TestRunSettled(t *testing.T) {
	for _, line := range []struct {
		what   string
		reps   int
		script []impl.Action
		want   string
	}{
		{"what was in the net", 2, three(), "cba"},
		{"what was lost", 2, append(three(), acDrop(0), acDrop(1)), "cba"},
		{"what was doubled", 2, append(three(), acDouble(2), acDouble(1), acDouble(2)), "cba"},
		{"what was turned round", 2, append(three(), acDeliver(2), acDeliver(1), acDeliver(0)), "cba"},
		{"what was bent, not to be read", 2, append(three(), acBend(0, 7), acBend(1, 7), acBend(2, 7)), "cba"},
		{"what was synced to some", 4, append(three(), acSync(0, 2), acDeliver(4), acSync(2, 1)), "cba"},
		{"what three did", 3, row(say(0, "a"), say(1, "b"), say(2, "c"), acDrop(0), acDrop(0), acDrop(0)), "abc"},
		{"what the last one did", 3, row(say(2, "a"), acDrop(0), acDrop(0), say(2, "b"), acDrop(0)), "ba"},
		{"what was undone", 3, append(three(), acEdit(0, edUndo()), acDrop(9), acDrop(7)), "ba"},
		{"what was thrown away and edited", 2, row(say(0, "a"), acDeliver(0), acEdit(0, edDrop(id(1, 0))), acEdit(1, edText(id(1, 0), "b"))), ""},
	} {
		got := ran(t, line.what, line.reps, "", line.script, true)
		checkDocs(t, line.what, got, slices.Repeat([]string{line.want}, line.reps)...)
		checkShown(t, line.what+": the net", got.Net, 0)
		checkShown(t, line.what+": Codes", len(got.Codes), len(ran(t, line.what, line.reps, "", line.script, false).Codes))
	}
}

// Two that each move one node into the other one's: one of them is within the
// other one, in the same way everywhere.
func TestRunMovesIntoEachOther(t *testing.T) {
	a, b := id(0, 2), id(0, 3)
	for reps := 2; reps <= impl.MaxReps; reps++ {
		for first := range reps {
			for second := range reps {
				if first == second {
					continue
				}
				script := row(acEdit(first, edMove(a, b, 0)), acEdit(second, edMove(b, a, 0)))
				got := ran(t, "not settled", reps, "<a></a><b></b>", script, false)
				checkShown(t, "not settled", docsOf(got)[first], "<body><b><a></a></b></body>")
				checkShown(t, "not settled", docsOf(got)[second], "<body><a><b></b></a></body>")
				want := "<b><a></a></b>"
				if second < first {
					want = "<a><b></b></a>"
				}
				got = ran(t, "settled", reps, "<a></a><b></b>", script, true)
				checkDocs(t, "settled", got, slices.Repeat([]string{want}, reps)...)
			}
		}
	}
	ring := row(acEdit(0, edMove(id(0, 2), id(0, 3), 0)), acEdit(1, edMove(id(0, 3), id(0, 4), 0)), acEdit(2, edMove(id(0, 4), id(0, 2), 0)))
	got := ran(t, "three in a ring", 3, "<a></a><b></b><c></c>", ring, true)
	checkDocs(t, "three in a ring", got, slices.Repeat([]string{"<c><b><a></a></b></c>"}, 3)...)
}

// textDrawn is markup that Build takes.
func textDrawn(r *rand.Rand) string {
	for {
		b := markedUp(firstDrawn(r))
		if _, ok := readAs(b); ok {
			return b
		}
	}
}

// wellDrawn is now and then refused.
func wellDrawn(r *rand.Rand, rep impl.Replica) impl.Edit {
	for {
		e := editDrawn(r, rep)
		if _, _, code := applyAs(rep, e); code == 0 || r.IntN(8) == 0 {
			return e
		}
	}
}

// scriptDrawn edits mostly what is there, since it is drawn as it is played.
func scriptDrawn(r *rand.Rand, reps int, b string, count int) []impl.Action {
	m := newNetAs(reps, b)
	var out []impl.Action
	for range count {
		who := r.IntN(reps)
		some := max(0, r.IntN(len(m.net)+1)-1) + r.IntN(2)*len(m.net)
		bit := r.IntN(200)
		if r.IntN(2) == 0 {
			bit = 8 + r.IntN(24)
		}
		a := []impl.Action{
			acEdit(who, impl.Edit{}), acEdit(who, impl.Edit{}), acEdit(who+reps, impl.Edit{}),
			acDeliver(some), acDeliver(some), acDouble(some), acDrop(some), acBend(some, bit), acSync(who, r.IntN(2*reps)),
		}[r.IntN(9)]
		if a.Kind == impl.AcEdit {
			a.Edit = wellDrawn(r, m.replica(who))
		}
		m.step(a)
		out = append(out, a)
	}
	return out
}

// Promises 8 and 9, by scripts of many kinds: ran holds each against both.
func TestRunOfManyScripts(t *testing.T) {
	r := rand.New(rand.NewPCG(7, 2))
	var codes [8]int
	parted, rivals, many := 0, 0, 0
	for range 400 {
		reps, b := 1+r.IntN(5), textDrawn(r)
		script := scriptDrawn(r, reps, b, r.IntN(70))
		got := ran(t, "drawn", reps, b, script, false)
		for _, code := range got.Codes {
			codes[code]++
		}
		if docs := docsOf(got); len(slices.Compact(slices.Sorted(slices.Values(docs)))) > 1 {
			parted++
		}
		settled := ran(t, "drawn, settled", reps, b, script, true)
		checkShown(t, "Codes", settled.Codes, got.Codes)
		checkShown(t, "none is Lost", isLost(settled), false)
		all := map[impl.Id]string{}
		for _, rep := range got.Reps {
			for _, o := range rep.Ops {
				if old, there := all[o.At]; there && old != shown(o) {
					rivals++
				}
				all[o.At] = shown(o)
			}
		}
		if len(settled.Reps[0].Ops) > 12 {
			many++
		}
	}
	if codes[0] < 3000 || codes[2] < 200 || codes[3] < 5 || codes[4] < 30 || parted < 150 || rivals < 10 || many < 50 {
		t.Fatalf("the draw tells little: codes %v, parted %d, rivals %d, many %d", codes, parted, rivals, many)
	}
}

// syncs are of each to each.
func syncs(reps int) []impl.Action {
	var out []impl.Action
	for a := range reps {
		for b := range reps {
			out = append(out, acSync(a, b))
		}
	}
	return out
}

// Promise 9: what is synced behind a script changes nothing of what is settled.
func TestRunSyncedBehind(t *testing.T) {
	r := rand.New(rand.NewPCG(7, 3))
	for range 150 {
		reps, b := 1+r.IntN(impl.MaxReps), textDrawn(r)
		script := scriptDrawn(r, reps, b, r.IntN(40))
		want := impl.Run(reps, []byte(b), script, true)
		got := ran(t, "synced", reps, b, append(script, syncs(reps)...), true)
		checkShown(t, "synced behind it", got, want)
		got = ran(t, "synced and heard", reps, b, append(append(script, syncs(reps)...), slices.Repeat(row(acDeliver(1)), 30)...), true)
		checkShown(t, "synced and heard", got, want)
	}
	full := marking(3, 100)
	checkShown(t, "a full net", impl.Run(8, nil, append(full, syncs(8)...), true), impl.Run(8, nil, full, true))
	lost := scriptOf(marking(0, 76), marking(1, 75))
	checkShown(t, "Lost is Lost", isLost(impl.Run(2, nil, append(lost, syncs(2)...), true)), true)
}

// Long scripts fill the net and the replicas.
func TestRunOfLongScripts(t *testing.T) {
	r := rand.New(rand.NewPCG(7, 4))
	full, lost := 0, 0
	for i := range 10 {
		reps, b := 3+r.IntN(6), textDrawn(r)
		script := scriptDrawn(r, reps, b, impl.MaxScript-i%2)
		got := ran(t, "long", reps, b, script, false)
		settled := ran(t, "long, settled", reps, b, script, true)
		if got.Net > impl.MaxNet-20 {
			full++
		}
		if isLost(settled) {
			lost++
		}
	}
	if full < 3 {
		t.Fatalf("the draw tells little: %d full, %d lost", full, lost)
	}
}

// Two runs of one script are the same, whatever became of the first one's
// answer.
func TestNetCallsKeepNothing(t *testing.T) {
	script := append(three(), say(1, "d"), acDeliver(1), acBend(0, 8), acSync(1, 0))
	want := shown(impl.Run(2, []byte("<p a=1>x"), script, true))
	other := shown(impl.Run(3, []byte("<p a=1>x"), script, false))
	for range 3 {
		got := impl.Run(2, []byte("<p a=1>x"), script, true)
		checkShown(t, "again", got, want)
		checkShown(t, "another one", impl.Run(3, []byte("<p a=1>x"), script, false), other)
		spoilResult(&got)
		for _, a := range script {
			if !impl.ActionOk(a) {
				t.Fatalf("%+v", a)
			}
		}
	}
}

// spoilResult overwrites all memory that the answer can reach.
func spoilResult(got *impl.Result) {
	spoilRow(got.Codes)
	for i := range got.Reps {
		spoilReplica(&got.Reps[i])
		got.Reps[i] = impl.Replica{Id: -9}
	}
	for i := range got.Docs {
		spoil(got.Docs[i])
		got.Docs[i] = nil
	}
}

func TestNetLeavesArgumentsAlone(t *testing.T) {
	r := rand.New(rand.NewPCG(7, 5))
	for i := range 100 {
		reps, b := 1+r.IntN(4), textDrawn(r)
		plain := scriptDrawn(r, reps, b, 30)
		if i%5 == 0 {
			plain = append(plain, impl.Action{Kind: 9})
		}
		given, script := roomy([]byte(b)), roomyOf(plain)
		before := shown(wholeOf(script))
		for _, settle := range []bool{false, true} {
			got := impl.Run(reps, given, script, settle)
			checkNewMemory(t, got, given, script)
			spoilResult(&got)
		}
		for _, a := range script {
			impl.ActionOk(a)
		}
		checkUntouched(t, given, []byte(b))
		checkShown(t, "the script", wholeOf(script), before)
	}
}

// One list that is there several times in a script is there in new memory each
// time.
func TestNetOfSharedLists(t *testing.T) {
	word := []byte("abc")
	script := row(
		acEdit(0, impl.Edit{Name: word}), acEdit(1, impl.Edit{Name: word}), acEdit(0, impl.Edit{Elem: impl.NdText, Text: word}),
		acEdit(1, impl.Edit{Kind: impl.EdAttr, Name: word, Text: word}), acEdit(2, impl.Edit{Kind: impl.EdAttr, Name: word[:1], Text: word[:1]}),
		acEdit(0, impl.Edit{Kind: impl.EdText, Node: id(2, 0), Text: word[1:]}), acBend(0, 90), acBend(1, 91))
	for _, settle := range []bool{false, true} {
		got := impl.Run(3, word, script, settle)
		checkShown(t, "the codes", got.Codes, key(0, 0, 0, 0, 0, 0))
		checkNewMemory(t, got, word, script)
		ran(t, "shared lists", 3, "abc", script, settle)
		spoilResult(&got)
	}
	checkShown(t, "the list", string(word), "abc")
}

func TestNetDoesNotReadBehindTheLength(t *testing.T) {
	script := append(three(), impl.Action{Kind: 9}, acDrop(0))
	checkDocs(t, "a script cut", ran(t, "a script cut", 2, "", script[:2], true), "ba", "ba")
	checkDocs(t, "a script cut", ran(t, "a script cut", 2, "", script[:3], true), "cba", "cba")
	checkNoRun(t, "not cut", 2, "", script[:4])
	b := []byte("<p>x</p><b>" + strings.Repeat("y", 2000))
	checkDocs(t, "text cut", impl.Run(1, b[:4], nil, false), "<p>x</p>")
	word := []byte("pX")
	if !impl.ActionOk(acEdit(0, impl.Edit{Name: word[:1]})) || impl.ActionOk(acEdit(0, impl.Edit{Name: word})) || !impl.ActionOk(impl.Action{Kind: 1, Edit: impl.Edit{Name: word[:0]}}) {
		t.Fatal("a name cut")
	}
	long := slices.Repeat(row(acDrop(0)), 1000)
	if !impl.Run(1, nil, long[:impl.MaxScript], false).Ok {
		t.Fatal("a long script cut")
	}
}

func TestNetOfEmptyLists(t *testing.T) {
	bare := row(acEdit(0, edDrop(id(0, 2))), acEdit(1, edUndo()), acDeliver(0), acSync(0, 1), acEdit(0, edNewText(rootId, 0, "")))
	full := slices.Clone(bare)
	for i := range full {
		full[i].Edit.Name, full[i].Edit.Text = []byte{}, []byte{}
		bare[i].Edit.Name, bare[i].Edit.Text = nil, nil
	}
	for _, settle := range []bool{false, true} {
		checkShown(t, "empty lists", ran(t, "empty", 2, "<p>", full, settle), ran(t, "nil", 2, "<p>", bare, settle))
		checkShown(t, "no text", impl.Run(2, []byte{}, []impl.Action{}, settle), impl.Run(2, nil, nil, settle))
	}
}

func TestNetEndsAtWhateverIsGiven(t *testing.T) {
	wide := []byte(strings.Repeat("a", 1<<20))
	many := slices.Repeat(row(say(0, "x")), 1<<18)
	for _, got := range []impl.Result{
		impl.Run(2, wide, nil, true), impl.Run(2, nil, many, true), impl.Run(math.MaxInt, wide, many, true), impl.Run(math.MinInt, nil, nil, true), impl.Run(math.MaxInt, nil, nil, false),
		impl.Run(2, nil, row(acEdit(0, impl.Edit{Name: wide})), true), impl.Run(2, nil, row(acEdit(0, impl.Edit{Elem: 1, Text: wide})), true),
		impl.Run(2, nil, row(impl.Action{Kind: 1, Edit: impl.Edit{Text: wide}}), true), impl.Run(2, nil, row(acEdit(math.MaxInt, edUndo())), true), impl.Run(2, nil, row(acBend(0, math.MinInt)), true),
	} {
		checkShown(t, "what may not be", got, impl.Result{})
	}
	for _, n := range []int{math.MinInt, math.MaxInt, -1, 1 << 40} {
		if impl.ActionOk(impl.Action{Kind: n, A: n, B: n, Edit: impl.Edit{Kind: n, I: n, Elem: n, Node: id(n, n), To: id(n, n), Name: wide, Text: wide, Gone: true}}) {
			t.Fatal("may not be")
		}
	}
}

// The greatest run that there may be: all replicas, all parts, as many
// operations as they take, as many actions as there may be, and settled.
func TestNetAtTheLimits(t *testing.T) {
	b := strings.Repeat("<p></p>", impl.MaxParts-1)
	var script []impl.Action
	for i := range impl.MaxOps {
		script = append(script, acEdit(i, edAttr(id(0, 2+i%100), "abcdefgh", strings.Repeat("&", impl.MaxText))), acSync(i, i+1))
	}
	got := ran(t, "the greatest", impl.MaxReps, b, script, true)
	if isLost(got) || len(got.Reps[3].Ops) != impl.MaxOps || len(got.Codes) != impl.MaxOps || slices.Max(got.Codes) != impl.EdWell {
		t.Fatalf("%d operations, codes %v", len(got.Reps[3].Ops), got.Codes)
	}
	got = ran(t, "the greatest, not settled", impl.MaxReps, b, script, false)
	checkShown(t, "the net", got.Net, impl.MaxNet)
}
