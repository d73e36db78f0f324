package tests

import (
	"bytes"
	"math"
	"math/rand/v2"
	"regexp"
	"slices"
	"strings"
	"testing"

	"loop.example/g00353/impl"
)

func elem(name string, kids ...impl.Node) impl.Node {
	return impl.Node{Kind: impl.NdElem, Name: []byte(name), Kids: kids}
}

func text(s string) impl.Node {
	return impl.Node{Kind: impl.NdText, Text: []byte(s)}
}

// withAttrs gives n attributes: names and values, one behind the other.
func withAttrs(n impl.Node, row ...string) impl.Node {
	n.Attrs = nil
	for i := 0; i+1 < len(row); i += 2 {
		n.Attrs = append(n.Attrs, impl.Attr{Name: []byte(row[i]), Val: []byte(row[i+1])})
	}
	return n
}

// nested lays n at the given depth below elements with nothing else in them.
func nested(n impl.Node, deep int) impl.Node {
	for ; deep > 1; deep-- {
		n = elem("d", n)
	}
	return n
}

func copies(n impl.Node, count int) []impl.Node { return slices.Repeat([]impl.Node{n}, count) }

func checkNode(t *testing.T, what string, n impl.Node, want bool) {
	t.Helper()
	if got := impl.NodeOk(n); got != want {
		t.Fatalf("%s: NodeOk is %v; want %v", what, got, want)
	}
	if got := impl.NodeOk(roomyOf(n)); got != want {
		t.Fatalf("%s, with room behind its lists: NodeOk is %v; want %v", what, got, want)
	}
	if got := impl.Same(n, n); got != want {
		t.Fatalf("%s: Same as itself is %v; want %v", what, got, want)
	}
	if !want {
		checkShown(t, what+": Tidy", impl.Tidy(n), impl.Node{})
	}
}

// checkEverywhere asks of n at the top, within others and beside others.
func checkEverywhere(t *testing.T, what string, n impl.Node, want bool) {
	t.Helper()
	if n.Kind == impl.NdElem {
		checkNode(t, what, n, want)
	}
	checkNode(t, what+" as a kid", elem("p", n), want)
	checkNode(t, what+" as the last kid", elem("p", text("x"), elem("br"), n), want)
	checkNode(t, what+" as the first kid", elem("p", n, elem("i"), text("")), want)
	checkNode(t, what+" deep below", elem("p", elem("b", text("y")), nested(n, 9)), want)
}

// page is an ordinary tree with all that may be in it.
func page() impl.Node {
	return withAttrs(elem("div",
		text("one"), text(""), text("two"),
		withAttrs(elem("p", text("a<b & \"c\""), withAttrs(elem("br"), "x", "1"), text("~"), elem("h1", text(" "))), "a", "", "b2", "v w"),
		elem("hr"), elem("ul", elem("li", text("x"), text("y")), elem("li"))),
		"class", "big", "id", "top")
}

func TestTreesConstants(t *testing.T) {
	if impl.MaxParts != 120 || impl.MaxDeep != 20 || impl.MaxAttrs != 4 || impl.MaxName != 8 || impl.NdElem != 0 || impl.NdText != 1 {
		t.Fatal("a constant is not as the document has it")
	}
}

func TestNameOk(t *testing.T) {
	for _, name := range []string{"a", "z", "m", "br", "h1", "a0", "z9", "a0b1c2d3", "abcdefgh", "a9999999", "zzzzzzzz"} {
		if !impl.NameOk([]byte(name)) {
			t.Errorf("%q is a name", name)
		}
	}
	for _, name := range []string{"", "0", "9", "1h", "A", "Z", "aB", "bR", "abcdefghi", "a12345678", strings.Repeat("a", 5000),
		" ", "a ", " a", "a-b", "a_", "_a", "a.b", "a\x00", "\x00", "a\xff", "\xe4", "`", "{", "a`", "a{", "a/", "a:", "a@", "a["} {
		if impl.NameOk([]byte(name)) {
			t.Errorf("%q is no name", name)
		}
	}
	if impl.NameOk(nil) {
		t.Error("nothing is no name")
	}
}

func TestNameOkEveryByte(t *testing.T) {
	for x := range 256 {
		small := x >= 97 && x <= 122
		digit := x >= 48 && x <= 57
		if impl.NameOk([]byte{byte(x)}) != small {
			t.Errorf("byte %d alone", x)
		}
		for at := 1; at < impl.MaxName; at++ {
			name := []byte("aaaaaaaa")
			name[at] = byte(x)
			if impl.NameOk(name) != (small || digit) || impl.NameOk(name[:at+1]) != (small || digit) {
				t.Errorf("byte %d at %d", x, at)
			}
		}
	}
}

func TestNodeOkOrdinary(t *testing.T) {
	checkNode(t, "page", page(), true)
	for _, n := range []impl.Node{elem("p"), elem("br"), elem("hr"), elem("brx"), elem("h"), text(""), text("x"), text("a b"),
		elem("p", text("")), elem("p", text("a"), text("b")), elem("br1", text("x")), elem("b", elem("r")), elem("trash"), elem("body"),
		withAttrs(elem("br"), "a", "x"), withAttrs(elem("hr"), "hr", "br"), withAttrs(elem("p", text("x")), "br", "")} {
		checkEverywhere(t, shown(n), n, true)
	}
}

func TestNodeOkKinds(t *testing.T) {
	for _, kind := range []int{-1, 2, 3, 99, math.MinInt, math.MaxInt, 1 << 32, 1<<32 + 1, 256} {
		for _, n := range []impl.Node{{Kind: kind}, {Kind: kind, Name: []byte("p")}, {Kind: kind, Text: []byte("x")}} {
			checkNode(t, "a kind that is none", n, false)
			checkEverywhere(t, "a kind that is none", n, false)
		}
	}
	checkNode(t, "the zero value", impl.Node{}, false)
	checkNode(t, "a text at the top", text("x"), false)
	checkNode(t, "an empty text at the top", text(""), false)
}

func TestNodeOkElements(t *testing.T) {
	for what, n := range map[string]impl.Node{
		"no name":            elem(""),
		"a great letter":     elem("P"),
		"a digit first":      elem("1p"),
		"nine bytes":         elem("abcdefghi"),
		"a blank":            elem("p "),
		"Text":               {Kind: impl.NdElem, Name: []byte("p"), Text: []byte("x")},
		"a blank as Text":    {Kind: impl.NdElem, Name: []byte("p"), Text: []byte(" ")},
		"a void one's Text":  {Kind: impl.NdElem, Name: []byte("br"), Text: []byte("x")},
		"an attribute's Val": withAttrs(elem("p"), "a", "x\n"),
	} {
		checkEverywhere(t, what, n, false)
	}
	checkEverywhere(t, "MaxName bytes", elem("abcdefgh"), true)
	checkEverywhere(t, "one byte", elem("q"), true)
	checkEverywhere(t, "an empty Text", impl.Node{Name: []byte("p"), Text: []byte{}}, true)
}

func TestNodeOkTexts(t *testing.T) {
	for what, n := range map[string]impl.Node{
		"Name":           {Kind: impl.NdText, Name: []byte("p"), Text: []byte("x")},
		"Name alone":     {Kind: impl.NdText, Name: []byte("p")},
		"Attrs":          {Kind: impl.NdText, Text: []byte("x"), Attrs: []impl.Attr{{Name: []byte("a")}}},
		"an empty Attr":  {Kind: impl.NdText, Attrs: make([]impl.Attr, 1)},
		"an elem in it":  {Kind: impl.NdText, Text: []byte("x"), Kids: []impl.Node{elem("p")}},
		"a text in it":   {Kind: impl.NdText, Kids: []impl.Node{text("")}},
		"the zero in it": {Kind: impl.NdText, Text: []byte("x"), Kids: make([]impl.Node, 1)},
	} {
		checkEverywhere(t, "a text with "+what, n, false)
	}
	empty := impl.Node{Kind: impl.NdText, Name: []byte{}, Text: []byte{}, Attrs: []impl.Attr{}, Kids: []impl.Node{}}
	checkEverywhere(t, "a text with empty lists", empty, true)
}

func TestNodeOkTextSizes(t *testing.T) {
	for size, want := range map[int]bool{0: true, 1: true, impl.MaxText - 1: true, impl.MaxText: true, impl.MaxText + 1: false, impl.MaxText + 2: false, 128: false, 5000: false} {
		long := strings.Repeat("x", size)
		checkEverywhere(t, "a text by its size", text(long), want)
		checkEverywhere(t, "a value by its size", withAttrs(elem("p"), "a", long), want)
		checkEverywhere(t, "a last value by its size", withAttrs(elem("p"), "a", "", "b", "", "c", "", "d", long), want)
	}
}

func TestNodeOkTextBytes(t *testing.T) {
	for x := range 256 {
		want := x >= 32 && x <= 126
		for _, row := range []string{string([]byte{byte(x)}), string([]byte{'a', byte(x)}), string([]byte{byte(x), 'a'}),
			strings.Repeat("a", impl.MaxText-1) + string([]byte{byte(x)})} {
			checkNode(t, "a byte of a text", elem("p", text(row)), want)
			checkNode(t, "a byte of a value", withAttrs(elem("p"), "a", row), want)
			checkNode(t, "a byte of a later value", withAttrs(elem("p"), "a", "", "b", row), want)
		}
	}
}

func TestNodeOkAttrs(t *testing.T) {
	for what, row := range map[string][]string{
		"two alike":               {"a", "1", "a", "2"},
		"two wholly alike":        {"a", "1", "a", "1"},
		"two alike behind others": {"a", "", "b", "", "c", "", "c", ""},
		"falling":                 {"b", "", "a", ""},
		"falling at the end":      {"a", "", "b", "", "d", "", "c", ""},
		"falling at the front":    {"b", "", "a", "", "c", "", "d", ""},
		"a longer one ahead":      {"ab", "", "a", ""},
		"a letter ahead of digit": {"aa", "", "a1", ""},
		"no name":                 {"", ""},
		"no name behind one":      {"a", "", "", ""},
		"a great letter":          {"A", ""},
		"a great letter behind":   {"a", "", "aB", ""},
		"a digit first":           {"1", ""},
		"nine bytes":              {"abcdefghi", ""},
		"five":                    {"a", "", "b", "", "c", "", "d", "", "e", ""},
		"six":                     {"a", "", "b", "", "c", "", "d", "", "e", "", "f", ""},
	} {
		checkEverywhere(t, what, withAttrs(elem("p"), row...), false)
		checkEverywhere(t, what+", of a void one", withAttrs(elem("br"), row...), false)
	}
	for what, row := range map[string][]string{
		"none":                    {},
		"one":                     {"a", ""},
		"four":                    {"a", "", "b", "", "c", "", "d", ""},
		"a shorter one ahead":     {"a", "", "ab", ""},
		"digits ahead of letters": {"a1", "", "aa", ""},
		"of MaxName bytes":        {"abcdefgh", "", "abcdefgi", ""},
		"falling values":          {"a", "z", "b", "y", "c", "x", "d", "x"},
	} {
		checkEverywhere(t, what, withAttrs(elem("p"), row...), true)
	}
}

func TestNodeOkVoid(t *testing.T) {
	for _, name := range []string{"br", "hr"} {
		for _, kid := range []impl.Node{text(""), text("x"), elem("p"), elem(name), {}} {
			checkEverywhere(t, name+" with Kids", elem(name, kid), false)
			checkEverywhere(t, name+" with Kids and attributes", withAttrs(elem(name, kid), "a", "x"), false)
		}
		checkEverywhere(t, name, elem(name), true)
		checkEverywhere(t, name+" with empty Kids", impl.Node{Name: []byte(name), Kids: []impl.Node{}}, true)
		twice := elem("p", elem(name), elem(name), elem(name, text("x")))
		checkEverywhere(t, "the last of three "+name, twice, false)
	}
	for _, name := range []string{"b", "h", "r", "b1", "br1", "hrr", "rb", "rh", "bra", "img", "p"} {
		checkEverywhere(t, name+" with Kids", elem(name, text("x")), true)
	}
	checkNode(t, "one of both", elem("p", elem("br"), elem("hr", text("x"))), false)
}

func TestNodeOkParts(t *testing.T) {
	for _, kid := range []impl.Node{text(""), text("x"), elem("i"), elem("br")} {
		checkNode(t, "MaxParts", elem("p", copies(kid, impl.MaxParts-1)...), true)
		checkNode(t, "MaxParts + 1", elem("p", copies(kid, impl.MaxParts)...), false)
		checkNode(t, "many", elem("p", copies(kid, 1000)...), false)
	}
	pair := elem("b", text("x"))
	checkNode(t, "MaxParts - 1 by two", elem("p", copies(pair, 59)...), true)
	checkNode(t, "MaxParts by two", elem("p", append(copies(pair, 59), text(""))...), true)
	checkNode(t, "MaxParts + 1 by two", elem("p", copies(pair, 60)...), false)
	half := elem("b", copies(text("x"), 58)...)
	checkNode(t, "MaxParts in two halves", elem("p", half, half, text("")), true)
	checkNode(t, "MaxParts + 1 in two halves", elem("p", half, half, text(""), text("")), false)
}

func TestNodeOkDepth(t *testing.T) {
	for _, n := range []impl.Node{text("x"), text(""), elem("i"), elem("br")} {
		for deep := 2; deep <= impl.MaxDeep; deep++ {
			checkNode(t, "a depth that may be", nested(n, deep), true)
		}
		for _, deep := range []int{impl.MaxDeep + 1, impl.MaxDeep + 2, 100} {
			checkNode(t, "a depth that may not be", nested(n, deep), false)
			checkNode(t, "that behind a shallow one", elem("p", text(""), nested(n, deep-1)), false)
			checkNode(t, "that ahead of a shallow one", elem("p", nested(n, deep-1), text("")), false)
		}
	}
	three := nested(elem("p", text("a"), elem("br"), text("b")), impl.MaxDeep-1)
	checkNode(t, "three at MaxDeep", three, true)
	checkNode(t, "three at MaxDeep + 1", elem("p", three), false)
	var chains []impl.Node
	for range 6 {
		chains = append(chains, nested(text("x"), impl.MaxDeep-1))
	}
	checkNode(t, "MaxParts - 5 at MaxDeep", elem("p", chains...), true)
}

var (
	nameShape = regexp.MustCompile(`^[a-z][a-z0-9]{0,7}$`)
	textShape = regexp.MustCompile(`^[ -~]{0,30}$`)
)

// mayBe is read off the document in another way than the program's: by counts
// and depths of whole trees, and by shapes. It wants a tree that ends.
func mayBe(n impl.Node) bool {
	count, deep := sizeOf(n)
	return n.Kind == 0 && count <= 120 && deep <= 20 && shaped(n)
}

func sizeOf(n impl.Node) (count, deep int) {
	for _, k := range n.Kids {
		c, d := sizeOf(k)
		count, deep = count+c, max(deep, d)
	}
	return count + 1, deep + 1
}

func shaped(n impl.Node) bool {
	if n.Kind == 1 {
		return len(n.Name)+len(n.Attrs)+len(n.Kids) == 0 && textShape.Match(n.Text)
	}
	var names []string
	for _, a := range n.Attrs {
		if !nameShape.Match(a.Name) || !textShape.Match(a.Val) {
			return false
		}
		names = append(names, string(a.Name))
	}
	ordered := slices.Clone(names)
	slices.Sort(ordered)
	void := string(n.Name) == "br" || string(n.Name) == "hr"
	return n.Kind == 0 && nameShape.Match(n.Name) && len(n.Text) == 0 && len(names) <= 4 &&
		slices.Equal(slices.Compact(ordered), names) && !(void && len(n.Kids) > 0) &&
		!slices.ContainsFunc(n.Kids, func(k impl.Node) bool { return !shaped(k) })
}

// grown is a tree drawn from few names and texts, so that two of them are
// alike now and then; one in so many nodes is spoilt.
func grown(r *rand.Rand, deep, spoilt int) impl.Node {
	n := elem([]string{"p", "b", "ul", "br", "hr", "h1"}[r.IntN(6)])
	for _, name := range []string{"a", "b", "c1"} {
		if r.IntN(6) == 0 {
			n.Attrs = append(n.Attrs, impl.Attr{Name: []byte(name), Val: []byte([]string{"", "x"}[r.IntN(2)])})
		}
	}
	void := string(n.Name) == "br" || string(n.Name) == "hr"
	for range r.IntN(6) {
		switch {
		case void || deep <= 1:
		case r.IntN(3) == 0:
			n.Kids = append(n.Kids, grown(r, deep-1, spoilt))
		default:
			n.Kids = append(n.Kids, text(strings.Repeat(string(rune(97+r.IntN(2))), []int{0, 0, 1, 14, 15, 29, 30}[r.IntN(7)])))
		}
	}
	if spoilt > 0 && r.IntN(spoilt) == 0 {
		return spoiltNode(r, n)
	}
	return n
}

func spoiltNode(r *rand.Rand, n impl.Node) impl.Node {
	switch r.IntN(8) {
	case 0:
		n.Kind = r.IntN(5) - 1
	case 1:
		n.Name = []byte([]string{"", "B", "br", "hr", "abcdefghi", "a-"}[r.IntN(6)])
	case 2:
		n.Text = []byte("x")
	case 3:
		n.Kids = append(n.Kids, text(strings.Repeat("x", 30+r.IntN(2))))
	case 4:
		n.Kids = append(n.Kids, text(string([]byte{byte(r.IntN(256))})))
	case 5:
		n.Attrs = append(n.Attrs, impl.Attr{Name: []byte([]string{"", "a", "d", "Z"}[r.IntN(4)])})
	case 6:
		n.Kids = append(n.Kids, nested(text(""), 10+r.IntN(12)))
	case 7:
		n.Kids = append(n.Kids, copies(text(""), 50+r.IntN(80))...)
	}
	return n
}

func TestNodeOkOfManyTrees(t *testing.T) {
	r := rand.New(rand.NewPCG(2, 1))
	well := 0
	for range 20000 {
		n := grown(r, 1+r.IntN(8), 10)
		want := mayBe(n)
		checkNode(t, shown(n), n, want)
		if want {
			well++
		}
	}
	if well < 2000 || well > 18000 {
		t.Fatalf("%d of 20000 may be: the draw tells little", well)
	}
}

func TestSameOfManyTrees(t *testing.T) {
	r := rand.New(rand.NewPCG(2, 2))
	alike := 0
	for range 100000 {
		a, b := grown(r, 1+r.IntN(3), 30), grown(r, 1+r.IntN(3), 30)
		want := mayBe(a) && mayBe(b) && shown(a) == shown(b)
		if got := impl.Same(a, b); got != want {
			t.Fatalf("Same(%s, %s) = %v", shown(a), shown(b), got)
		}
		if want {
			alike++
		}
	}
	if alike < 100 {
		t.Fatalf("%d of 100000 are alike: the draw tells little", alike)
	}
}

func TestSameIsOfValues(t *testing.T) {
	if !impl.Same(page(), page()) || !impl.Same(page(), roomyOf(page())) || !impl.Same(roomyOf(page()), page()) {
		t.Fatal("two trees that are alike")
	}
	empty := impl.Node{Name: []byte("p"), Text: []byte{}, Attrs: []impl.Attr{}, Kids: []impl.Node{}}
	if !impl.Same(elem("p"), empty) || !impl.Same(empty, elem("p")) {
		t.Fatal("an empty list and nil")
	}
	a, b := withAttrs(elem("p", text("")), "a", ""), withAttrs(elem("p", text("")), "a", "")
	a.Attrs[0].Val, b.Attrs[0].Val = nil, []byte{}
	a.Kids[0].Text, b.Kids[0].Text = nil, []byte{}
	if !impl.Same(a, b) || !impl.Same(b, a) {
		t.Fatal("an empty text and nil")
	}
}

// changed are trees that differ from n in one thing alone, wherever it stands.
func changed(n impl.Node) []impl.Node {
	var out []impl.Node
	keep := func(change func(*impl.Node)) {
		c := roomyOf(n)
		change(&c)
		out = append(out, c)
	}
	if n.Kind == impl.NdText {
		keep(func(c *impl.Node) { c.Text = append([]byte("z"), c.Text...) })
		keep(func(c *impl.Node) { c.Text = append(slices.Clone(c.Text), 'z') })
		for i := range n.Text {
			keep(func(c *impl.Node) { c.Text[i]++ })
			keep(func(c *impl.Node) { c.Text = slices.Delete(c.Text, i, i+1) })
		}
		keep(func(c *impl.Node) { *c = elem("z") })
		return out
	}
	for i := range n.Name {
		keep(func(c *impl.Node) { c.Name[i] = 'z' })
	}
	keep(func(c *impl.Node) { c.Name = append(slices.Clone(c.Name), 'z') })
	keep(func(c *impl.Node) { c.Attrs = append(slices.Clone(c.Attrs), impl.Attr{Name: []byte("z")}) })
	for i := range n.Attrs {
		keep(func(c *impl.Node) { c.Attrs = slices.Delete(c.Attrs, i, i+1) })
		keep(func(c *impl.Node) { c.Attrs[i].Name = append(slices.Clone(c.Attrs[i].Name), '0') })
		keep(func(c *impl.Node) { c.Attrs[i].Val = append(slices.Clone(c.Attrs[i].Val), ' ') })
	}
	for i, kid := range n.Kids {
		keep(func(c *impl.Node) { c.Kids = slices.Delete(c.Kids, i, i+1) })
		keep(func(c *impl.Node) { c.Kids = slices.Insert(c.Kids, i, text("")) })
		keep(func(c *impl.Node) { c.Kids = slices.Insert(c.Kids, i+1, elem("z")) })
		keep(func(c *impl.Node) { c.Kids[i] = elem("z", c.Kids[i]) })
		if i > 0 {
			keep(func(c *impl.Node) { c.Kids[i], c.Kids[i-1] = c.Kids[i-1], c.Kids[i] })
		}
		for _, other := range changed(kid) {
			keep(func(c *impl.Node) { c.Kids[i] = other })
		}
	}
	return out
}

func TestSameDiffersInOneThing(t *testing.T) {
	n := page()
	all := changed(n)
	if len(all) < 100 {
		t.Fatal(len(all))
	}
	both := 0
	for _, c := range all {
		if impl.Same(n, c) || impl.Same(c, n) {
			t.Fatalf("%s and %s are not the same", shown(n), shown(c))
		}
		if impl.NodeOk(c) {
			both++
		}
	}
	if both < 100 {
		t.Fatalf("%d of %d may be: they tell little", both, len(all))
	}
}

func TestSameTellsDepths(t *testing.T) {
	trees := []impl.Node{
		elem("a", elem("b"), elem("c"), elem("d")),
		elem("a", elem("b", elem("c"), elem("d"))),
		elem("a", elem("b", elem("c")), elem("d")),
		elem("a", elem("b"), elem("c", elem("d"))),
		elem("a", elem("b", elem("c", elem("d")))),
	}
	for i, a := range trees {
		for k, b := range trees {
			if impl.Same(a, b) != (i == k) {
				t.Fatalf("%d and %d", i, k)
			}
		}
	}
}

func TestSameOfWhatMayNotBe(t *testing.T) {
	for _, n := range []impl.Node{{}, text("x"), text(""), elem("P"), elem("br", text("x")), elem("p", copies(text(""), 120)...),
		nested(text("x"), 21), {Kind: 2}, elem("p", text("\x1f"))} {
		if impl.Same(n, n) || impl.Same(n, elem("p")) || impl.Same(elem("p"), n) {
			t.Fatalf("%s may not be", shown(n))
		}
	}
}

// kidsShort shows kids in short: a text as its size, an element as its name
// and what is in it.
func kidsShort(n impl.Node) string {
	var out []string
	for _, k := range n.Kids {
		if k.Kind == impl.NdText {
			out = append(out, shown(len(k.Text)))
		} else {
			out = append(out, string(k.Name)+"("+kidsShort(k)+")")
		}
	}
	return strings.Join(out, " ")
}

func xs(sizes ...int) []impl.Node {
	var out []impl.Node
	for _, size := range sizes {
		out = append(out, text(strings.Repeat("x", size)))
	}
	return out
}

func TestTidyRows(t *testing.T) {
	for _, c := range []struct {
		sizes []int
		want  string
	}{
		{nil, ""}, {[]int{0}, ""}, {[]int{0, 0, 0}, ""}, {[]int{1}, "1"}, {[]int{30}, "30"},
		{[]int{1, 1}, "2"}, {[]int{0, 1}, "1"}, {[]int{1, 0}, "1"}, {[]int{1, 0, 1}, "2"}, {[]int{0, 30, 0}, "30"},
		{[]int{15, 15}, "30"}, {[]int{29, 1}, "30"}, {[]int{1, 29}, "30"}, {[]int{29, 2}, "30 1"}, {[]int{1, 30}, "30 1"},
		{[]int{30, 1}, "30 1"}, {[]int{30, 0, 1}, "30 1"}, {[]int{14, 15}, "29"}, {[]int{30, 30}, "30 30"}, {[]int{29, 30}, "30 29"},
		{[]int{20, 20, 20}, "30 30"}, {[]int{20, 20, 21}, "30 30 1"}, {[]int{20, 20, 19}, "30 29"}, {[]int{0, 20, 0, 0, 20, 20, 20, 0}, "30 30 20"},
	} {
		checkShown(t, "Tidy", kidsShort(impl.Tidy(elem("p", xs(c.sizes...)...))), c.want)
		checkShown(t, "Tidy deep below", kidsShort(impl.Tidy(nested(elem("p", xs(c.sizes...)...), 19))),
			strings.Repeat("d(", 17)+"p("+c.want+strings.Repeat(")", 18))
	}
}

func TestTidyParted(t *testing.T) {
	for _, between := range []impl.Node{elem("i"), elem("br"), elem("i", text("")), elem("hr")} {
		kids := append(append(xs(10, 10, 0), between), xs(0, 10, 25)...)
		mid := string(between.Name) + "()"
		checkShown(t, "parted", kidsShort(impl.Tidy(elem("p", kids...))), "20 "+mid+" 30 5")
		checkShown(t, "empty ones about", kidsShort(impl.Tidy(elem("p", text(""), between, text(""), between, text("")))), mid+" "+mid)
	}
	n := elem("p", text("a"), elem("b", text("c"), text("d"), elem("i", text("e"), text(""), text("f")), text("g")), text("h"), text("i"))
	want := elem("p", text("a"), elem("b", text("cd"), elem("i", text("ef")), text("g")), text("hi"))
	checkShown(t, "texts keep to their element", impl.Tidy(n), want)
}

func TestTidyKeepsTheRest(t *testing.T) {
	want := page()
	want.Kids = append([]impl.Node{text("onetwo")}, want.Kids[3:]...)
	want.Kids[3].Kids[0].Kids = []impl.Node{text("xy")}
	checkShown(t, "page", impl.Tidy(page()), want)
	row := "abcdefghijklmnopqrstuvwxyz0123456789 !\"#$%&'()*+,-./:;<=>?@[]^_`{|}~"
	n := withAttrs(elem("p", text(row[:20]), text(row[20:45]), text(row[45:])), "a", "", "b", "x", "c", "<>", "d", "&")
	want = withAttrs(elem("p", text(row[:30]), text(row[30:60]), text(row[60:])), "a", "", "b", "x", "c", "<>", "d", "&")
	checkShown(t, "the bytes in their order", impl.Tidy(n), want)
	checkShown(t, "a void one", impl.Tidy(withAttrs(elem("br"), "a", "x")), withAttrs(elem("br"), "a", "x"))
}

func TestTidyAtTheLimits(t *testing.T) {
	full := elem("p", copies(text(strings.Repeat("x", impl.MaxText)), impl.MaxParts-1)...)
	checkShown(t, "MaxParts full ones", impl.Tidy(full), full)
	checkShown(t, "MaxParts empty ones", impl.Tidy(elem("p", copies(text(""), impl.MaxParts-1)...)), elem("p"))
	checkShown(t, "MaxParts + 1 empty ones", impl.Tidy(elem("p", copies(text(""), impl.MaxParts)...)), impl.Node{})
	checkShown(t, "MaxDeep", impl.Tidy(nested(text("x"), impl.MaxDeep)), nested(text("x"), impl.MaxDeep))
	checkShown(t, "MaxDeep + 1", impl.Tidy(nested(text("x"), impl.MaxDeep+1)), impl.Node{})
}

// tidyOf is written off the document in another way than the program's: the
// kids become one long text with marks for elements, which is then parted.
func tidyOf(n impl.Node) impl.Node {
	var long []byte
	var elems []impl.Node
	for _, k := range n.Kids {
		if k.Kind == 1 {
			long = append(long, k.Text...)
		} else {
			long = append(long, 0)
			elems = append(elems, tidyOf(k))
		}
	}
	n.Kids = nil
	for i, row := range bytes.Split(long, []byte{0}) {
		if i > 0 {
			n.Kids = append(n.Kids, elems[i-1])
		}
		for at := 0; at < len(row); at += 30 {
			n.Kids = append(n.Kids, text(string(row[at:min(at+30, len(row))])))
		}
	}
	return n
}

func TestTidyOfManyTrees(t *testing.T) {
	r := rand.New(rand.NewPCG(2, 3))
	for range 20000 {
		n := grown(r, 1+r.IntN(8), 50)
		x := impl.Tidy(n)
		if !mayBe(n) {
			checkShown(t, "what may not be", x, impl.Node{})
			continue
		}
		checkShown(t, "Tidy", x, tidyOf(n))
		if !impl.NodeOk(x) {
			t.Fatalf("%s is tidy, but not NodeOk", shown(x))
		}
		if again := impl.Tidy(x); !impl.Same(again, x) {
			t.Fatalf("%s is tidy, but did not stay so", shown(x))
		}
	}
}

func TestTreesLeaveArgumentsAlone(t *testing.T) {
	r := rand.New(rand.NewPCG(2, 4))
	trees := []impl.Node{page(), {}, text("x"), elem("p"), elem("p", copies(text(strings.Repeat("x", 30)), 119)...), nested(text("x"), 20)}
	for range 300 {
		trees = append(trees, grown(r, 6, 50))
	}
	for _, plain := range trees {
		a, b := roomyOf(plain), roomyOf(plain)
		before := shown(wholeOf(a))
		impl.NodeOk(a)
		impl.NameOk(a.Name)
		impl.Same(a, b)
		x := impl.Tidy(a)
		checkNewMemory(t, x, a)
		for range 2 {
			if shown(wholeOf(a)) != before || shown(wholeOf(b)) != before {
				t.Fatalf("%s was written into", shown(plain))
			}
			spoilNode(&x)
		}
	}
}

func spoilNode(n *impl.Node) {
	spoil(n.Name)
	spoil(n.Text)
	for i := range n.Attrs {
		spoil(n.Attrs[i].Name)
		spoil(n.Attrs[i].Val)
		n.Attrs[i] = impl.Attr{}
	}
	for i := range n.Kids {
		spoilNode(&n.Kids[i])
		n.Kids[i] = impl.Node{Kind: 9}
	}
}

func TestTidyOfSharedLists(t *testing.T) {
	name, words := []byte("b"), []byte("xyz")
	inner := impl.Node{Name: name, Attrs: []impl.Attr{{Name: name, Val: words}, {Name: []byte("c"), Val: words}}, Kids: []impl.Node{{Kind: 1, Text: words}, {Kind: 1, Text: words}}}
	n := impl.Node{Name: name, Attrs: inner.Attrs, Kids: []impl.Node{inner, inner, {Kind: 1, Text: words}, inner}}
	x := impl.Tidy(n)
	checkNewMemory(t, x, n)
	kid := withAttrs(elem("b", text("xyzxyz")), "b", "xyz", "c", "xyz")
	checkShown(t, "lists that are there several times", x, withAttrs(elem("b", kid, kid, text("xyz"), kid), "b", "xyz", "c", "xyz"))
}

func TestTreesDoNotReadBehindTheLength(t *testing.T) {
	n := page()
	if impl.NodeOk(impl.Node{Name: []byte("page")[:0]}) {
		t.Fatal("a name behind the length")
	}
	cut := n
	cut.Kids, cut.Attrs = n.Kids[:3], n.Attrs[:1]
	checkShown(t, "what is cut", impl.Tidy(cut), withAttrs(elem("div", text("onetwo")), "class", "big"))
	if impl.Same(cut, n) {
		t.Fatal("a cut list and the whole one")
	}
}

// endless is a tree that lies within itself, count times over.
func endless(name string, count int) impl.Node {
	kids := make([]impl.Node, count)
	for i := range kids {
		kids[i] = impl.Node{Name: []byte(name), Kids: kids}
	}
	return kids[0]
}

// hugeTrees are trees that may not be, most of them far too great or without an
// end.
func hugeTrees() []impl.Node {
	deep := elem("p")
	for range 100000 {
		deep = elem("p", deep)
	}
	bush := elem("p")
	for range 19 {
		bush = elem("p", copies(bush, 100)...)
	}
	long := strings.Repeat("a", 1<<20)
	textWithin := make([]impl.Node, 1)
	textWithin[0] = impl.Node{Kind: impl.NdText, Kids: textWithin}
	return []impl.Node{
		deep, bush, elem("p", make([]impl.Node, 100000)...), elem(long), elem("p", text(long)), withAttrs(elem("p"), "a", long),
		withAttrs(elem("p"), long, ""), {Name: []byte("p"), Attrs: make([]impl.Attr, 100000)}, endless("p", 1), endless("p", 200),
		endless("br", 1), endless("", 3), elem("p", textWithin...), textWithin[0], elem("p", endless("p", 2), elem("q")),
		{Kind: math.MinInt}, {Kind: math.MaxInt, Kids: textWithin},
	}
}

func TestTreesEndAtWhateverIsGiven(t *testing.T) {
	trees := hugeTrees()
	for i, a := range trees {
		if impl.NodeOk(a) {
			t.Fatalf("tree %d may not be", i)
		}
		checkShown(t, "Tidy", impl.Tidy(a), impl.Node{})
		for k, b := range trees {
			if impl.Same(a, b) || impl.Same(a, page()) || impl.Same(page(), b) {
				t.Fatalf("trees %d and %d may not be", i, k)
			}
		}
	}
	if impl.NameOk(bytes.Repeat([]byte("a"), 1<<20)) {
		t.Fatal("a long name")
	}
}

func TestTreesCallsKeepNothing(t *testing.T) {
	for range 3 {
		x := impl.Tidy(page())
		spoilNode(&x)
		if !impl.NodeOk(page()) || impl.NodeOk(elem("br", text("x"))) || !impl.NodeOk(elem("b", text("x"))) {
			t.Fatal("an earlier call is seen")
		}
		checkShown(t, "Tidy again", kidsShort(impl.Tidy(page())), "6 p(9 br() 1 h1(1)) hr() ul(li(2) li())")
	}
}
