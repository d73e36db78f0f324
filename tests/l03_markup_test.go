package tests

import (
	"bytes"
	"math"
	"math/rand/v2"
	"regexp"
	"slices"
	"strconv"
	"strings"
	"testing"

	"loop.example/g00353/impl"
)

// within is what stands within the markup of a body.
func within(t *testing.T, n impl.Node) string {
	t.Helper()
	all := string(impl.Markup(n))
	rest, front := strings.CutPrefix(all, "<body>")
	rest, back := strings.CutSuffix(rest, "</body>")
	if !front || !back {
		t.Fatalf("%q is not the markup of a body", all)
	}
	return rest
}

// checkTree fails unless Build of b tells just want, and what it tells comes
// back from what stands within its markup.
func checkTree(t *testing.T, b string, want impl.Node) {
	t.Helper()
	n, ok := impl.Build([]byte(b))
	if !ok {
		t.Fatalf("Build(%q) is false", b)
	}
	checkShown(t, "Build("+strconv.Quote(b)+")", n, want)
	checkComesBack(t, n)
}

func checkComesBack(t *testing.T, n impl.Node) {
	t.Helper()
	if !impl.NodeOk(n) || !mayBe(n) {
		t.Fatalf("%s is not NodeOk", shown(n))
	}
	inside := within(t, n)
	if len(inside) > impl.MaxMarkup {
		return
	}
	again, ok := impl.Build([]byte(inside))
	if !ok || !impl.Same(n, again) || shown(n) != shown(again) {
		t.Fatalf("%q came back as %v, %s; was %s", inside, ok, shown(again), shown(n))
	}
}

// checkMarkup fails unless Build of b tells a body in whose markup stands want.
func checkMarkup(t *testing.T, b string, want string) {
	t.Helper()
	n, ok := impl.Build([]byte(b))
	if !ok {
		t.Fatalf("Build(%q) is false; want %q", b, want)
	}
	if got := within(t, n); got != want {
		t.Fatalf("Build(%q) is %q; want %q", b, got, want)
	}
	checkComesBack(t, n)
}

func checkMarkups(t *testing.T, rows [][2]string) {
	t.Helper()
	for _, row := range rows {
		checkMarkup(t, row[0], row[1])
	}
}

func checkNoTree(t *testing.T, what string, b string) {
	t.Helper()
	n, ok := impl.Build([]byte(b))
	if ok {
		t.Fatalf("%s: Build(%q) is true", what, b)
	}
	checkShown(t, what, n, impl.Node{})
}

func body(kids ...impl.Node) impl.Node { return elem("body", kids...) }

func TestMarkupConstants(t *testing.T) {
	if impl.MaxMarkup != 1500 {
		t.Fatal(impl.MaxMarkup)
	}
}

func TestMarkupOrdinary(t *testing.T) {
	for _, c := range []struct {
		n    impl.Node
		want string
	}{
		{elem("p"), "<p></p>"},
		{elem("p", text("")), "<p></p>"},
		{elem("p", text("a"), text(""), text("b c")), "<p>ab c</p>"},
		{elem("h1", elem("b", elem("i", text("x")), text("y")), text("z")), "<h1><b><i>x</i>y</b>z</h1>"},
		{withAttrs(elem("p"), "a", ""), `<p a=""></p>`},
		{withAttrs(elem("p", text("x")), "a", "1", "b2", "v w", "c", "", "d", "'"), `<p a="1" b2="v w" c="" d="'">x</p>`},
		{elem("br"), "<br>"},
		{elem("hr"), "<hr>"},
		{withAttrs(elem("br"), "a", "x", "b", "y"), `<br a="x" b="y">`},
		{elem("p", elem("br"), elem("hr"), elem("br")), "<p><br><hr><br></p>"},
		{elem("brx", elem("b"), elem("h")), "<brx><b></b><h></h></brx>"},
		{page(), `<div class="big" id="top">onetwo<p a="" b2="v w">a&lt;b &amp; "c"<br x="1">~<h1> </h1></p><hr><ul><li>xy</li><li></li></ul></div>`},
	} {
		checkShown(t, "Markup", string(impl.Markup(c.n)), c.want)
		checkShown(t, "Markup of one with room", string(impl.Markup(roomyOf(c.n))), c.want)
	}
}

func TestMarkupEveryByte(t *testing.T) {
	for x := range 256 {
		here := string([]byte{byte(x)})
		inText, inVal := here, here
		switch here {
		case "&":
			inText, inVal = "&amp;", "&amp;"
		case "<":
			inText, inVal = "&lt;", "&lt;"
		case `"`:
			inVal = "&quot;"
		}
		wantText, wantVal := "<p>a"+inText+"b"+inText+"</p>", `<p k="a`+inVal+"b"+inVal+`"></p>`
		if x < 32 || x > 126 {
			wantText, wantVal = "", ""
		}
		row := "a" + here + "b" + here
		checkShown(t, "a byte of a text", string(impl.Markup(elem("p", text(row)))), wantText)
		checkShown(t, "a byte of a value", string(impl.Markup(withAttrs(elem("p"), "k", row))), wantVal)
	}
	all := withAttrs(elem("p", text(`&amp;&lt;&gt;&quot;<>"'&`)), "k", `&amp;&lt;&gt;&quot;<>"'&`)
	checkShown(t, "references", string(impl.Markup(all)),
		`<p k="&amp;amp;&amp;lt;&amp;gt;&amp;quot;&lt;>&quot;'&amp;">&amp;amp;&amp;lt;&amp;gt;&amp;quot;&lt;>"'&amp;</p>`)
}

// wrongTrees may not be, each for one reason.
func wrongTrees() []impl.Node {
	return []impl.Node{{}, text(""), text("x"), elem(""), elem("P"), elem("1p"), elem("abcdefghi"), {Kind: 2, Name: []byte("p")},
		{Kind: math.MinInt, Name: []byte("p")}, {Name: []byte("p"), Text: []byte("x")}, elem("br", text("")), elem("p", elem("hr", text("x"))),
		elem("p", text(strings.Repeat("x", impl.MaxText+1))), elem("p", text("\x1f")), elem("p", text("a\x7f")), elem("p", text("\n")),
		withAttrs(elem("p"), "b", "", "a", ""), withAttrs(elem("p"), "a", "", "a", ""), withAttrs(elem("p"), "A", ""), withAttrs(elem("p"), "", ""),
		withAttrs(elem("p"), "a", "", "b", "", "c", "", "d", "", "e", ""), withAttrs(elem("p"), "a", strings.Repeat("x", impl.MaxText+1)),
		withAttrs(elem("p"), "a", "\t"), elem("p", copies(text(""), impl.MaxParts)...), nested(text("x"), impl.MaxDeep+1), elem("p", impl.Node{}),
		elem("p", text("x"), impl.Node{Kind: impl.NdText, Name: []byte("p")})}
}

func TestMarkupOfWhatMayNotBe(t *testing.T) {
	for i, n := range wrongTrees() {
		if got := impl.Markup(n); len(got) != 0 {
			t.Errorf("tree %d has the markup %q", i, got)
		}
		if got := impl.Markup(elem("p", text("a"), n, text("b"))); len(got) != 0 && n.Kind != impl.NdText {
			t.Errorf("tree %d within another one has the markup %q", i, got)
		}
	}
}

func TestMarkupAtTheLimits(t *testing.T) {
	full := strings.Repeat("&", impl.MaxText)
	n := elem("p", copies(text(full), impl.MaxParts-1)...)
	checkShown(t, "MaxParts", string(impl.Markup(n)), "<p>"+strings.Repeat("&amp;", impl.MaxText*(impl.MaxParts-1))+"</p>")
	checkShown(t, "MaxDeep", string(impl.Markup(nested(text("x"), impl.MaxDeep))),
		strings.Repeat("<d>", impl.MaxDeep-1)+"x"+strings.Repeat("</d>", impl.MaxDeep-1))
	quotes := strings.Repeat(`"`, impl.MaxText)
	n = withAttrs(elem("abcdefgh"), "abcdefg1", quotes, "abcdefg2", quotes, "abcdefg3", "", "abcdefgh", quotes)
	q := strings.Repeat("&quot;", impl.MaxText)
	checkShown(t, "MaxAttrs", string(impl.Markup(n)), `<abcdefgh abcdefg1="`+q+`" abcdefg2="`+q+`" abcdefg3="" abcdefgh="`+q+`"></abcdefgh>`)
}

func TestBuildOrdinary(t *testing.T) {
	checkTree(t, "", body())
	checkTree(t, "x", body(text("x")))
	checkTree(t, "<p>", body(elem("p")))
	checkTree(t, "<p></p>", body(elem("p")))
	checkTree(t, "a<p>b<i>c</i>d</p>e", body(text("a"), elem("p", text("b"), elem("i", text("c")), text("d")), text("e")))
	checkTree(t, "<p>a</p><p>b</p>", body(elem("p", text("a")), elem("p", text("b"))))
	checkTree(t, "<p><p><p>x</p></p>y</p>z", body(elem("p", elem("p", elem("p", text("x"))), text("y")), text("z")))
	checkTree(t, `<p a="1" b='2' c=3 d>x</p>`, body(withAttrs(elem("p", text("x")), "a", "1", "b", "2", "c", "3", "d", "")))
	checkTree(t, "<h1>&lt;b&gt; &amp; &quot;x&quot;</h1>", body(elem("h1", text(`<b> & "x"`))))
	checkTree(t, `<p a="&lt;b&gt;" b='&amp; &quot;' c=&amp;&quot;x>`, body(withAttrs(elem("p"), "a", "<b>", "b", `& "`, "c", `&"x`)))
	checkTree(t, "<UL Class=Big ID='Top'><Li>One</lI></Ul>X",
		body(withAttrs(elem("ul", elem("li", text("One"))), "class", "Big", "id", "Top"), text("X")))
	checkTree(t, "one<br>two<HR>three", body(text("one"), elem("br"), text("two"), elem("hr"), text("three")))
}

func TestBuildEndTags(t *testing.T) {
	checkMarkups(t, [][2]string{
		{"</p>", ""}, {"</p>x", "x"}, {"a</p>b", "ab"}, {"<b>x</p>y</b>z", "<b>xy</b>z"}, {"<p>x</p></p>y", "<p>x</p>y"},
		{"<p>a</p>b</p>c<p>d", "<p>a</p>bc<p>d</p>"}, {"</p><p>x", "<p>x</p>"},
		{"<a><b><c>x</a>y", "<a><b><c>x</c></b></a>y"}, {"<a><b><c>x</b>y</c>z</a>w", "<a><b><c>x</c></b>yz</a>w"},
		{"<a><b><a><b>x</a>y</b>z", "<a><b><a><b>x</b></a>y</b>z</a>"}, {"<p>1<p>2</p>3</p>4", "<p>1<p>2</p>3</p>4"},
		{"<ul><li>1<li>2</ul>3", "<ul><li>1<li>2</li></li></ul>3"}, {"<ul><li>1</li><li>2</li></ul>", "<ul><li>1</li><li>2</li></ul>"},
		{"<p>x</p a=1 b='>'>y", "<p>x</p>y"}, {"<p>x</p/>y", "<p>x</p>y"}, {"<p>x</p y>z", "<p>x</p>z"}, {"<p>x</p\n>z", "<p>x</p>z"},
		{"<p>x</p", "<p>x</p>"}, {"<p>x</P>y", "<p>x</p>y"}, {"<P>x</p>y", "<p>x</p>y"}, {"<p>x</pp>y</p1>z", "<p>xyz</p>"},
		{"<p>x</p1>y", "<p>xy</p>"}, {"<p1>x</p>y", "<p1>xy</p1>"},
	})
}

func TestBuildBody(t *testing.T) {
	checkMarkups(t, [][2]string{
		{"</body>", ""}, {"x</body>y", "xy"}, {"<p>x</body>y", "<p>xy</p>"}, {"</BODY >x", "x"},
		{"<body>", "<body></body>"}, {"<body>x</body>y", "<body>x</body>y"}, {"<body>x</body></body>y", "<body>x</body>y"},
		{"<body><p>x</body>y", "<body><p>x</p></body>y"}, {"<p><body>x</p>y</body>z", "<p><body>x</body></p>yz"},
		{"<Body a=1>x", `<body a="1">x</body>`}, {"<body><body>x</body>y</body>z</body>w", "<body><body>x</body>y</body>zw"},
	})
}

func TestBuildVoid(t *testing.T) {
	checkMarkups(t, [][2]string{
		{"<br>", "<br>"}, {"<hr>", "<hr>"}, {"<br/>x", "<br>x"}, {"<br />x", "<br>x"}, {"<BR>x<Hr>y", "<br>x<hr>y"},
		{"<br>x</br>y", "<br>xy"}, {"</br>", ""}, {"a</hr>b", "ab"}, {"<p><br></br></p>x", "<p><br></p>x"},
		{"<br a=1 b='2'>x", `<br a="1" b="2">x`}, {"<p>x<br>y</p>z", "<p>x<br>y</p>z"}, {"<br><br><hr>", "<br><br><hr>"},
		{"<hr>x</hr></br>y", "<hr>xy"}, {"<br", "<br>"}, {"<b><br>x</b>y", "<b><br>x</b>y"}, {"<brx>y</brx>z", "<brx>y</brx>z"},
	})
}

func TestBuildNoTags(t *testing.T) {
	checkMarkups(t, [][2]string{
		{"<", "&lt;"}, {"</", "&lt;/"}, {"<<", "&lt;&lt;"}, {"< p>", "&lt; p>"}, {"</ p>", "&lt;/ p>"}, {"<>", "&lt;>"}, {"</>", "&lt;/>"},
		{"<1p>", "&lt;1p>"}, {"</1p>", "&lt;/1p>"}, {"<//p>", "&lt;//p>"}, {"<!p>", "&lt;!p>"}, {"<?p?>", "&lt;?p?>"},
		{"<-p>", "&lt;-p>"}, {"<\x00p>", "&lt;p>"}, {"<\np>", "&lt; p>"}, {"<\xe4>", "&lt;>"}, {"</\x80p>", "&lt;/p>"}, {"<@>", "&lt;@>"},
		{"<[>", "&lt;[>"}, {"<`>", "&lt;`>"}, {"<{>", "&lt;{>"}, {"</@>", "&lt;/@>"}, {"<&lt;p>", "&lt;&lt;p>"}, {"&lt;p>", "&lt;p>"},
		{"<<p>x", "&lt;<p>x</p>"}, {"a<</p>b", "a&lt;b"}, {"1 < 2 > 0", "1 &lt; 2 > 0"}, {">", ">"}, {"a>b", "a>b"}, {"<p>x<", "<p>x&lt;</p>"},
		{"<p>x</", "<p>x&lt;/</p>"},
	})
}

func TestBuildNamesThatAreNone(t *testing.T) {
	checkMarkups(t, [][2]string{
		{"<abcdefgh>x", "<abcdefgh>x</abcdefgh>"}, {"<abcdefghi>x", "x"}, {"<ABCDEFGHI>x", "x"}, {"<a12345678>x</a12345678>y", "xy"},
		{"<a1234567>x</A1234567>y", "<a1234567>x</a1234567>y"}, {"a<abcdefghi b='>'>c", "ac"}, {"<abcdefgh>x</abcdefghi>y", "<abcdefgh>xy</abcdefgh>"},
		{"<abcdefghi", ""}, {"x</abcdefghi", "x"}, {"<" + strings.Repeat("p", 1000) + ">x", "x"}, {"<brbrbrbrbr>x", "x"},
	})
}

func TestBuildNamesEnd(t *testing.T) {
	for x := range 256 {
		here := string([]byte{byte(x)})
		lower := strings.ToLower(here)
		switch {
		case x >= '0' && x <= '9' || x >= 'a' && x <= 'z' || x >= 'A' && x <= 'Z':
			checkMarkup(t, "<p"+here+"q>", "<p"+lower+"q></p"+lower+"q>")
			checkMarkup(t, "<p k"+here+"q=1>", "<p k"+lower+`q="1"></p>`)
			checkMarkup(t, "<p><i>x</i"+here+">y", "<p><i>xy</i></p>")
		case x == '>':
			checkMarkup(t, "<p"+here+"q>", "<p>q></p>")
			checkMarkup(t, "<p k"+here+"q=1>", `<p k="">q=1></p>`)
		case x == '=':
			checkMarkup(t, "<p"+here+"q>", `<p q=""></p>`)
			checkMarkup(t, "<p k"+here+"q=1>", `<p k="q=1"></p>`)
		default:
			checkMarkup(t, "<p"+here+"q>", `<p q=""></p>`)
			checkMarkup(t, "<p k"+here+"q=1>", `<p k="" q="1"></p>`)
			checkMarkup(t, "<p><i>x</i"+here+">y", "<p><i>x</i>y</p>")
		}
	}
}

func TestBuildPassedOver(t *testing.T) {
	checkMarkups(t, [][2]string{
		{"<p/>x", "<p>x</p>"}, {"<p / >x", "<p>x</p>"}, {"<p =>x", "<p>x</p>"}, {"<p = a>x", `<p a="">x</p>`}, {"<p=a>x", `<p a="">x</p>`},
		{`<p "x">y`, `<p x="">y</p>`}, {`<p "x>y`, `<p x="">y</p>`}, {"<p '>y", "<p>y</p>"}, {"<p 1a=2>", `<p a="2"></p>`}, {"<p 12>", "<p></p>"},
		{"<p -a_b.c=1>", `<p a="" b="" c="1"></p>`}, {"<p <b>x", `<p b="">x</p>`}, {"<p</p>x", `<p p="">x</p>`}, {"<p &amp;>", `<p amp=""></p>`},
		{"<p\ta\nb\rc\x00d>", `<p a="" b="" c="" d=""></p>`}, {"<p a =1>", `<p a=""></p>`}, {"<p a = b>", `<p a="" b=""></p>`}, {"<p \xc3\xa4=1>x", "<p>x</p>"},
		{"<p a/b>", `<p a="" b=""></p>`}, {`<p a"b'c>`, `<p a="" b="" c=""></p>`}, {"<p a==b>", `<p a="=b"></p>`}, {`<p ="x y">`, `<p x="" y=""></p>`},
		{"<p     >x", "<p>x</p>"}, {"<p;a,b:c>", `<p a="" b="" c=""></p>`},
	})
}

func TestBuildValues(t *testing.T) {
	checkMarkups(t, [][2]string{
		{`<p a="x">`, `<p a="x"></p>`}, {`<p a='x'>`, `<p a="x"></p>`}, {`<p a=x>`, `<p a="x"></p>`}, {`<p a>`, `<p a=""></p>`}, {`<p a=>x`, `<p a="">x</p>`},
		{`<p a="">`, `<p a=""></p>`}, {`<p a=''>`, `<p a=""></p>`}, {`<p a= b>`, `<p a="" b=""></p>`}, {`<p a= "b">`, `<p a="" b=""></p>`},
		{`<p a="x>y">z`, `<p a="x>y">z</p>`}, {`<p a='x>y'>z`, `<p a="x>y">z</p>`}, {`<p a="'">`, `<p a="'"></p>`}, {`<p a='"'>`, `<p a="&quot;"></p>`},
		{`<p a="1"b='2'c=3>`, `<p a="1" b="2" c="3"></p>`}, {`<p a=1/>x`, `<p a="1/">x</p>`}, {`<p a=x"y'z>`, `<p a="x&quot;y'z"></p>`},
		{`<p a=<b>x`, `<p a="&lt;b">x</p>`}, {`<p a="<b></p>">x`, `<p a="&lt;b>&lt;/p>">x</p>`}, {`<p a=b=c>`, `<p a="b=c"></p>`},
		{"<p a=x\tb=y\nc=z\rd=w e=v>", `<p a="x" b="y" c="z" d="w"></p>`}, {"<p a=x\x0by>", `<p a="xy"></p>`}, {"<p a=x\x0cy\x00z>", `<p a="xyz"></p>`},
		{"<p a=\"x\ty\nz\rw v\">", `<p a="xyzw v"></p>`}, {"<p a='\x00x\x1f\x7f\x80\xff~'>", `<p a="x~"></p>`}, {`<p a=" x ">`, `<p a=" x "></p>`},
		{`<p A="Xy">`, `<p a="Xy"></p>`}, {`<p a=X&LT;>`, `<p a="X&amp;LT;"></p>`}, {`<p a=''b>`, `<p a="" b=""></p>`}, {`<p a=""""b>`, `<p a="" b=""></p>`},
		{`<p a="x'>y`, `<p a="x'>y"></p>`}, {`<p a="x' b='y">z`, `<p a="x' b='y">z</p>`},
	})
}

func TestBuildValuesEveryByte(t *testing.T) {
	for x := range 256 {
		here := string([]byte{byte(x)})
		kept := here
		if x < 32 || x > 126 {
			kept = ""
		}
		if here != `"` {
			checkTree(t, `<p a="x`+here+`y">z`, body(withAttrs(elem("p", text("z")), "a", "x"+kept+"y")))
		}
		if here != `'` {
			checkTree(t, `<p a='x`+here+`y'>z`, body(withAttrs(elem("p", text("z")), "a", "x"+kept+"y")))
		}
		switch here {
		case " ", "\t", "\n", "\r":
			checkTree(t, "<p a=x"+here+"y>z", body(withAttrs(elem("p", text("z")), "a", "x", "y", "")))
		case ">":
			checkTree(t, "<p a=x>y>z", body(withAttrs(elem("p", text("y>z")), "a", "x")))
		default:
			checkTree(t, "<p a=x"+here+"y>z", body(withAttrs(elem("p", text("z")), "a", "x"+kept+"y")))
		}
	}
}

func TestBuildValueSizes(t *testing.T) {
	for _, quote := range []string{`"`, `'`, ""} {
		for size := range 3 * impl.MaxText {
			row := strings.Repeat("abcdefghijk", 9)[:size]
			want := row[:min(size, impl.MaxText)]
			checkTree(t, "<p a="+quote+row+quote+" b=x>z", body(withAttrs(elem("p", text("z")), "a", want, "b", "x")))
			spaced := strings.ReplaceAll(row, "c", "c\x00\x80")
			checkTree(t, "<p a="+quote+spaced+quote+">", body(withAttrs(elem("p"), "a", want)))
			refs := strings.Repeat("&lt;", size)
			checkTree(t, "<p a="+quote+refs+quote+">", body(withAttrs(elem("p"), "a", strings.Repeat("<", len(want)))))
			if quote != "" {
				checkTree(t, "<p a="+quote+row+">z", body(withAttrs(elem("p"), "a", (row + ">z")[:min(size+2, impl.MaxText)])))
			}
		}
	}
}

func TestBuildReferences(t *testing.T) {
	for in, want := range map[string]string{
		"&amp;": "&", "&lt;": "<", "&gt;": ">", "&quot;": `"`, "&amp;&lt;&gt;&quot;": `&<>"`, "&amp;lt;": "&lt;", "&amp;amp;": "&amp;",
		"&": "&", "&&": "&&", "&;": "&;", "&a": "&a", "&am": "&am", "&amp": "&amp", "&lt": "&lt", "&gt": "&gt", "&quot": "&quot", "&quo;": "&quo;",
		"&AMP;": "&AMP;", "&Lt;": "&Lt;", "&GT;": "&GT;", "&qUOT;": "&qUOT;", "&apos;": "&apos;", "&nbsp;": "&nbsp;", "&#60;": "&#60;", "&#x3c;": "&#x3c;",
		"&&amp;": "&&", "&am&amp;p;": "&am&p;", "&l&lt;t;": "&l<t;", "&lt;;": "<;", "&ltt;": "&ltt;", "&amp;gt;": "&gt;", "&lt;p&gt;": "<p>", "amp;": "amp;",
		"&a\x00mp;": "&amp;", "&lt\x80;": "&lt;", "\xff&gt;": ">",
	} {
		checkTree(t, in, body(text(want)))
		checkTree(t, "<i>x"+in+"y", body(elem("i", text("x"+want+"y"))))
		for _, quote := range []string{`"`, `'`, ""} {
			checkTree(t, "<i a="+quote+in+quote+">z", body(withAttrs(elem("i", text("z")), "a", want)))
			checkTree(t, "<i a="+quote+in, body(withAttrs(elem("i"), "a", want)))
		}
	}
	checkTree(t, "& amp;&am p;", body(text("& amp;&am p;")))
	checkTree(t, "&am<b>p;", body(text("&am"), elem("b", text("p;"))))
	checkTree(t, "&am</b>p;", body(text("&amp;")))
	checkTree(t, `<p a=&am b=p;>`, body(withAttrs(elem("p"), "a", "&am", "b", "p;")))
	checkTree(t, `<p a="&am"p;>`, body(withAttrs(elem("p"), "a", "&am", "p", "")))
	checkTree(t, `<p a=&gt>;`, body(withAttrs(elem("p", text(";")), "a", "&gt")))
}

func TestBuildAttributesTwice(t *testing.T) {
	checkMarkups(t, [][2]string{
		{"<p a=1 a=2>", `<p a="1"></p>`}, {"<p a=1 A=2>", `<p a="1"></p>`}, {"<p A=1 a=2>", `<p a="1"></p>`}, {"<p a a=2>", `<p a=""></p>`},
		{"<p ab=1 Ab=2 aB=3 AB=4 b=5>", `<p ab="1" b="5"></p>`}, {"<p b=1 a=2 b=3 a=4>", `<p a="2" b="1"></p>`}, {"<p a=1 ab=2 a1=3>", `<p a="1" a1="3" ab="2"></p>`},
		{"<p p=1>x</p p=2><p p=3>", `<p p="1">x</p><p p="3"></p>`}, {"<br k=1 K=2>", `<br k="1">`},
		{"<p abcdefgh=1 ABCDEFGH=2 abcdefghi=3 abcdefgi=4>", `<p abcdefgh="1" abcdefgi="4"></p>`},
	})
}

func TestBuildAttributeNames(t *testing.T) {
	checkMarkups(t, [][2]string{
		{"<p abcdefgh=1>", `<p abcdefgh="1"></p>`}, {"<p abcdefghi=1>x", "<p>x</p>"}, {"<p abcdefghi='>' b=2>x", `<p b="2">x</p>`},
		{"<p a12345678>x", "<p>x</p>"}, {"<p abcdefghi abcdefgh>", `<p abcdefgh=""></p>`}, {"<p ABCDEFGH=X>", `<p abcdefgh="X"></p>`},
		{"<p aaaaaaaaa=1 bbbbbbbbb=2 ccccccccc=3 ddddddddd=4 e=5>", `<p e="5"></p>`}, {"<p h1=2 br=3 body=4>", `<p body="4" br="3" h1="2"></p>`},
	})
}

func TestBuildManyAttributes(t *testing.T) {
	checkMarkups(t, [][2]string{
		{"<p a=1 b=2 c=3 d=4>", `<p a="1" b="2" c="3" d="4"></p>`}, {"<p a=1 b=2 c=3 d=4 e=5>", `<p a="1" b="2" c="3" d="4"></p>`},
		{"<p e=5 d=4 c=3 b=2 a=1>", `<p b="2" c="3" d="4" e="5"></p>`}, {"<p d=1 d=2 d=3 d=4 c=5 b=6 a=7 e=8>", `<p a="7" b="6" c="5" d="1"></p>`},
		{"<p d c b a d=1 c=2 e f g>x", `<p a="" b="" c="" d="">x</p>`}, {"<br f e d c b a>", `<br c="" d="" e="" f="">`},
		{"<p abcdefghi d c b a e>x", `<p a="" b="" c="" d="">x</p>`}, {"<p c=1 e='>' d=2 b=3 a='>'>x", `<p b="3" c="1" d="2" e=">">x</p>`},
	})
}

func TestBuildAttributesInOrder(t *testing.T) {
	names := []string{"a", "a1", "aa", "b"}
	for i := range 256 {
		row := []string{names[i&3], names[i>>2&3], names[i>>4&3], names[i>>6]}
		in := "<p"
		want := map[string]string{}
		for k, name := range row {
			in += " " + name + "=" + shown(k)
			if _, there := want[name]; !there {
				want[name] = shown(k)
			}
		}
		var flat []string
		for _, name := range names {
			if val, there := want[name]; there {
				flat = append(flat, name, val)
			}
		}
		checkTree(t, in+">", body(withAttrs(elem("p"), flat...)))
	}
}

func TestBuildCutTags(t *testing.T) {
	for in, want := range map[string]impl.Node{
		"x<":                  body(text("x<")),
		"x<u":                 body(text("x"), elem("u")),
		"x<U":                 body(text("x"), elem("u")),
		"x<ul":                body(text("x"), elem("ul")),
		"x<ul ":               body(text("x"), elem("ul")),
		"x<ul/":               body(text("x"), elem("ul")),
		"x<ul a":              body(text("x"), withAttrs(elem("ul"), "a", "")),
		"x<ul ab":             body(text("x"), withAttrs(elem("ul"), "ab", "")),
		"x<ul ab=":            body(text("x"), withAttrs(elem("ul"), "ab", "")),
		"x<ul ab=\"":          body(text("x"), withAttrs(elem("ul"), "ab", "")),
		"x<ul ab=\"1":         body(text("x"), withAttrs(elem("ul"), "ab", "1")),
		"x<ul ab=\"1 >":       body(text("x"), withAttrs(elem("ul"), "ab", "1 >")),
		"x<ul ab=\"1 ></ul>y": body(text("x"), withAttrs(elem("ul"), "ab", "1 ></ul>y")),
		"x<ul ab=\"1&l":       body(text("x"), withAttrs(elem("ul"), "ab", "1&l")),
		"x<ul ab=\"1&lt;":     body(text("x"), withAttrs(elem("ul"), "ab", "1<")),
		"x<ul ab=\"1\"":       body(text("x"), withAttrs(elem("ul"), "ab", "1")),
		"x<ul ab='":           body(text("x"), withAttrs(elem("ul"), "ab", "")),
		"x<ul ab='1":          body(text("x"), withAttrs(elem("ul"), "ab", "1")),
		"x<ul ab='1'":         body(text("x"), withAttrs(elem("ul"), "ab", "1")),
		"x<ul ab=1":           body(text("x"), withAttrs(elem("ul"), "ab", "1")),
		"x<ul ab=1&am":        body(text("x"), withAttrs(elem("ul"), "ab", "1&am")),
		"x<ul b a":            body(text("x"), withAttrs(elem("ul"), "a", "", "b", "")),
		"x<ul abcdefghi":      body(text("x"), elem("ul")),
		"x<br a=1":            body(text("x"), withAttrs(elem("br"), "a", "1")),
		"<p>x</":              body(elem("p", text("x</"))),
		"<i><p>x</i":          body(elem("i", elem("p", text("x")))),
		"<i><p>x</p a=\"":     body(elem("i", elem("p", text("x")))),
		"<i><p>x</p a='>y":    body(elem("i", elem("p", text("x")))),
		"x<abcdefghi a=":      body(text("x")),
	} {
		checkTree(t, in, want)
	}
}

func TestBuildCutAnywhere(t *testing.T) {
	for _, whole := range []string{
		`a<Ul a="1&lt;2" b='>"&amp;' c=3&gt;/ d =e abcdefghi=5>z&quot;<br/></uL x='>'>y`,
		`<p><body a=1>x</p></body>&lt;b&gt;<abcdefghi>z</abcdefghi></br><hr>`,
	} {
		for end := range len(whole) + 1 {
			checkAsRead(t, whole[:end])
			checkAsRead(t, whole[end:])
		}
	}
}

func TestBuildTextBytes(t *testing.T) {
	for x := range 256 {
		here := string([]byte{byte(x)})
		kept := here
		switch {
		case x == 9 || x == 10 || x == 13:
			kept = " "
		case x < 32 || x > 126:
			kept = ""
		}
		checkTree(t, "1"+here+"2", body(text("1"+kept+"2")))
		checkTree(t, "<p>x"+here, body(elem("p", text("x"+kept))))
		if kept == "" {
			checkTree(t, here, body())
			checkTree(t, "<p>"+here+here+"</p>"+here, body(elem("p")))
			checkTree(t, "a<br>"+here+"<br>b", body(text("a"), elem("br"), elem("br"), text("b")))
		} else {
			checkTree(t, here, body(text(kept)))
			checkTree(t, here+here+"<p>", body(text(kept+kept), elem("p")))
		}
	}
	checkTree(t, " \t\n\r ", body(text("     ")))
	checkTree(t, "a\r\nb", body(text("a  b")))
	checkTree(t, "\xc3\xa4\xe2\x82\xac", body())
}

func TestBuildTextSizes(t *testing.T) {
	row := strings.Repeat("abcdefghijklm", 20)
	for size := range 4 * impl.MaxText {
		var kids []impl.Node
		for piece := range slices.Chunk([]byte(row[:size]), impl.MaxText) {
			kids = append(kids, text(string(piece)))
		}
		checkTree(t, row[:size], body(kids...))
		checkTree(t, "<p>"+row[:size]+"</p>"+row[:size], body(append([]impl.Node{elem("p", kids...)}, kids...)...))
		checkTree(t, strings.ReplaceAll(row[:size], "e", "\x00e</p>"), body(kids...))
	}
	thirty := strings.Repeat("&amp;", impl.MaxText)
	checkTree(t, thirty, body(text(strings.Repeat("&", impl.MaxText))))
	checkTree(t, thirty+"&lt;", body(text(strings.Repeat("&", impl.MaxText)), text("<")))
	checkTree(t, thirty+"\x00", body(text(strings.Repeat("&", impl.MaxText))))
}

func TestBuildTextsNotParted(t *testing.T) {
	for _, nothing := range []string{"</p>", "</body>", "</br>", "<abcdefghi>", "</abcdefghi>", "<abcdefghi a='>'>", "</q x=\"", "\x00", "\xc3\xa4", "</I >"} {
		behind := "b"
		if strings.HasSuffix(nothing, "\"") {
			behind = ""
		}
		checkTree(t, "a"+nothing+behind, body(text("a"+behind)))
		checkTree(t, "<u>a"+nothing+behind, body(elem("u", text("a"+behind))))
	}
	for _, between := range []impl.Node{elem("i"), elem("br"), elem("hr"), elem("body"), elem("i", text("c"))} {
		checkTree(t, "a"+string(impl.Markup(between))+"b", body(text("a"), between, text("b")))
	}
	checkTree(t, "a<i>b</i></i>c", body(text("a"), elem("i", text("b")), text("c")))
}

func TestBuildBytesLimit(t *testing.T) {
	row := strings.Repeat("x", impl.MaxMarkup)
	checkTree(t, row, body(copies(text(strings.Repeat("x", impl.MaxText)), impl.MaxMarkup/impl.MaxText)...))
	checkNoTree(t, "MaxMarkup + 1", row+"x")
	checkTree(t, strings.Repeat("\x00", impl.MaxMarkup), body())
	checkNoTree(t, "MaxMarkup + 1 that are left away", strings.Repeat("\x00", impl.MaxMarkup+1))
	checkTree(t, strings.Repeat("</p>", impl.MaxMarkup/4), body())
	checkNoTree(t, "MaxMarkup + 4 that do nothing", strings.Repeat("</p>", impl.MaxMarkup/4+1))
	checkTree(t, strings.Repeat("&lt;", impl.MaxMarkup/4)[:impl.MaxMarkup-60]+strings.Repeat(" ", 60),
		body(append(copies(text(strings.Repeat("<", 30)), 12), text(strings.Repeat(" ", 30)), text(strings.Repeat(" ", 30)))...))
	checkTree(t, "<p a="+strings.Repeat("y", impl.MaxMarkup-5), body(withAttrs(elem("p"), "a", strings.Repeat("y", impl.MaxText))))
	checkNoTree(t, "MaxMarkup + 1 in one tag", "<p a="+strings.Repeat("y", impl.MaxMarkup-4))
	checkNoTree(t, "far too many", strings.Repeat("x", 1<<22))
}

func TestBuildPartsLimit(t *testing.T) {
	for _, unit := range []string{"<i></i>", "<br>", "<hr/>", "<i></i></p>", "<br>\x00", "<br></br>"} {
		most := strings.Repeat(unit, impl.MaxParts-1)
		kid := elem(unit[1:2])
		if unit[2] == 'r' {
			kid = elem(unit[1:3])
		}
		checkTree(t, most, body(copies(kid, impl.MaxParts-1)...))
		for _, more := range []string{unit, "x", "<p>", "<br>", " ", "&lt;", "<"} {
			checkNoTree(t, "MaxParts + 1", most+more)
			checkNoTree(t, "MaxParts + 1 ahead", more+most)
			checkNoTree(t, "MaxParts + 1 and what ends it", most+more+"</p></i>")
		}
		for _, none := range []string{"\x00", "</p>", "</body>", "<abcdefghi>", "\xff", "</i"} {
			checkTree(t, most+none, body(copies(kid, impl.MaxParts-1)...))
		}
	}
	pairs := strings.Repeat("x<br>", (impl.MaxParts-2)/2)
	checkTree(t, pairs+"y", body(append(slices.Repeat([]impl.Node{text("x"), elem("br")}, (impl.MaxParts-2)/2), text("y"))...))
	checkNoTree(t, "MaxParts + 1 by two", pairs+"y<br>")
	full := strings.Repeat("<i>", 10) + strings.Repeat("<br>", impl.MaxParts-12) + strings.Repeat("x", impl.MaxText)
	if n, ok := impl.Build([]byte(full)); !ok || len(within(t, n)) != len(full)+40 {
		t.Fatal("MaxParts, the last one a full text")
	}
	checkNoTree(t, "one byte more begins a text", full+"x")
}

func TestBuildDepthLimit(t *testing.T) {
	open := func(count int) string { return strings.Repeat("<d>", count) }
	down := func(n impl.Node, deep int) impl.Node { return body(nested(n, deep-1)) }
	checkTree(t, open(impl.MaxDeep-1), down(elem("d"), impl.MaxDeep))
	for _, more := range []string{"<d>", "<br>", "x", " ", "\n", "&gt;", "<", "<d"} {
		checkNoTree(t, "MaxDeep + 1", open(impl.MaxDeep-1)+more)
		checkNoTree(t, "MaxDeep + 1, ended", open(impl.MaxDeep-1)+more+strings.Repeat("</d>", impl.MaxDeep))
		checkNoTree(t, "MaxDeep + 1 behind others", "a<br>"+open(impl.MaxDeep-1)+more)
	}
	for _, none := range []string{"\x00", "</p>", "</body>", "<abcdefghi>", "</d>", "</br>", "</d></d>"} {
		checkTree(t, open(impl.MaxDeep-1)+none, down(elem("d"), impl.MaxDeep))
	}
	checkTree(t, open(impl.MaxDeep-2)+"x", down(text("x"), impl.MaxDeep))
	checkTree(t, open(impl.MaxDeep-2)+"<br a=1>", down(withAttrs(elem("br"), "a", "1"), impl.MaxDeep))
	checkTree(t, open(impl.MaxDeep-1)+"</d>x", body(nested(elem("d", elem("d"), text("x")), impl.MaxDeep-2)))
	chain := open(impl.MaxDeep-1) + strings.Repeat("</d>", impl.MaxDeep-1)
	checkTree(t, strings.Repeat(chain, 6), body(copies(nested(elem("d"), impl.MaxDeep-1), 6)...))
	checkNoTree(t, "the second one too deep", chain+open(impl.MaxDeep))
}

const attrPattern = `([A-Za-z][A-Za-z0-9]*)(?:=("[^"]*(?:"|\z)|'[^']*(?:'|\z)|[^"' \t\n\r>][^ \t\n\r>]*)?)?`

var (
	tagStart  = regexp.MustCompile(`</?[A-Za-z]`)
	wholeTag  = regexp.MustCompile(`^<(/?)([A-Za-z][A-Za-z0-9]*)((?:` + attrPattern + `|[^A-Za-z>])*)(?:>|\z)`)
	attrShape = regexp.MustCompile(attrPattern)
	noText    = regexp.MustCompile(`[^ -~]`)
	noBlank   = regexp.MustCompile(`[\t\n\r]`)
	meanings  = strings.NewReplacer("&amp;", "&", "&lt;", "<", "&gt;", ">", "&quot;", `"`)
)

// readAs is read off the document in another way than the program's: shapes
// tell the tags, what they do becomes a row of marks, and limits are held
// against the whole tree.
func readAs(b string) (impl.Node, bool) {
	if len(b) > 1500 {
		return impl.Node{}, false
	}
	var marks []mark
	var open []string
	for len(b) > 0 {
		size := len(b)
		if at := tagStart.FindStringIndex(b); at != nil {
			size = at[0]
		}
		shown := noText.ReplaceAllString(noBlank.ReplaceAllString(meanings.Replace(b[:size]), " "), "")
		marks, b = append(marks, mark{text: shown}), b[size:]
		if len(b) == 0 {
			break
		}
		parts := wholeTag.FindStringSubmatch(b)
		b = b[len(parts[0]):]
		name := strings.ToLower(parts[2])
		switch {
		case len(name) > 8:
		case parts[1] == "/":
			if at := lastOf(open, name); at >= 0 {
				marks, open = append(marks, slices.Repeat([]mark{{ends: true}}, len(open)-at)...), open[:at]
			}
		default:
			marks = append(marks, mark{name: name, attrs: readAttrs(parts[3])})
			if open = append(open, name); name == "br" || name == "hr" {
				marks, open = append(marks, mark{ends: true}), open[:len(open)-1]
			}
		}
	}
	kids, _ := nest(marks)
	if n := body(kids...); mayBe(n) {
		return n, true
	}
	return impl.Node{}, false
}

func lastOf(l []string, word string) int {
	at := -1
	for i, x := range l {
		if x == word {
			at = i
		}
	}
	return at
}

// mark is a row of bytes, what begins an element, or what ends one.
type mark struct {
	text  string
	name  string
	attrs []impl.Attr
	ends  bool
}

func readAttrs(row string) []impl.Attr {
	vals := map[string]string{}
	for _, m := range attrShape.FindAllStringSubmatch(row, -1) {
		name, val := strings.ToLower(m[1]), m[2]
		if _, there := vals[name]; there || len(name) > 8 || len(vals) == 4 {
			continue
		}
		for _, quote := range []string{`"`, `'`} {
			if rest, quoted := strings.CutPrefix(val, quote); quoted {
				val, _, _ = strings.Cut(rest, quote)
				break
			}
		}
		val = noText.ReplaceAllString(meanings.Replace(val), "")
		vals[name] = val[:min(len(val), 30)]
	}
	var out []impl.Attr
	for name, val := range vals {
		out = append(out, impl.Attr{Name: []byte(name), Val: []byte(val)})
	}
	slices.SortFunc(out, func(a, b impl.Attr) int { return strings.Compare(string(a.Name), string(b.Name)) })
	return out
}

// nest makes nodes of marks, up to the one that ends what they are within, and
// tells how many marks it took.
func nest(marks []mark) ([]impl.Node, int) {
	var kids []impl.Node
	row := ""
	flush := func() {
		for ; len(row) > 0; row = row[min(30, len(row)):] {
			kids = append(kids, text(row[:min(30, len(row))]))
		}
	}
	for i := 0; i < len(marks); i++ {
		switch m := marks[i]; {
		case m.ends:
			flush()
			return kids, i
		case m.name == "":
			row += m.text
		default:
			flush()
			inner, took := nest(marks[i+1:])
			kids = append(kids, impl.Node{Name: []byte(m.name), Attrs: m.attrs, Kids: inner})
			i += took + 1
		}
	}
	flush()
	return kids, len(marks)
}

// checkAsRead holds Build of b against readAs, and tells what that answers.
func checkAsRead(t *testing.T, b string) bool {
	t.Helper()
	want, ok := readAs(b)
	if !ok {
		checkNoTree(t, "as read", b)
		return false
	}
	checkTree(t, b, want)
	return true
}

// drawnBytes are tags, pieces of tags and other bytes, one behind the other.
func drawnBytes(r *rand.Rand, count int) string {
	pieces := []string{"<p>", "</p>", "<b>", "</b>", "<P", "</P", "<ul ", "</UL>", "<br>", "<HR/>", "</br>", "<body>", "</body>", "<abcdefgh>",
		"</abcdefgh>", "<abcdefghi ", "</abcdefghi>", " a=1", " A='x y'", ` b="<&amp;>"`, " c=&lt;&quot;", " d", " e=", "=", `"`, "'", ">", "/>", "<", "</",
		"&amp;", "&lt;", "&gt;", "&quot;", "&am", "p;", "&", ";", " ", "\t", "\n", "\r", "\x00", "\x1f", "\x7f", "\x80", "\xc3\xa4", "x", "Y1", "hello, world",
		strings.Repeat("z", 29), strings.Repeat("w", 31)}
	var out strings.Builder
	for range count {
		if r.IntN(8) == 0 {
			out.WriteByte(byte(r.IntN(256)))
		} else {
			out.WriteString(pieces[r.IntN(len(pieces))])
		}
	}
	return out.String()
}

func TestBuildOfManyBytes(t *testing.T) {
	r := rand.New(rand.NewPCG(3, 1))
	for range 30000 {
		checkAsRead(t, drawnBytes(r, r.IntN(30)))
	}
	alphabet := "<<<>>>//&;=\"' \t\x00\x80abpPr1ltgamquo"
	for range 30000 {
		b := make([]byte, r.IntN(40))
		for i := range b {
			b[i] = alphabet[r.IntN(len(alphabet))]
		}
		checkAsRead(t, string(b))
	}
}

func TestBuildOfManyBytesAtTheLimits(t *testing.T) {
	r := rand.New(rand.NewPCG(3, 2))
	well := 0
	for i := range 4000 {
		var b string
		switch i % 3 {
		case 0:
			b = drawnBytes(r, 40+r.IntN(100))
		case 1:
			for range 40 + r.IntN(60) {
				b += []string{"<p>", "<i>", "<u>", "</p>", "</i>", "x", "<br>"}[r.IntN(7)]
			}
		case 2:
			for range 140 + r.IntN(60) {
				b += []string{"<i></i>", "x", "<br>", "</u>", "<hr a>"}[r.IntN(5)]
			}
		}
		if checkAsRead(t, b) {
			well++
		}
	}
	if well < 400 || well > 3600 {
		t.Fatalf("%d of 4000 are trees: the draw tells little", well)
	}
}

// sprinkled is n with other bytes in its texts and values.
func sprinkled(r *rand.Rand, n impl.Node) impl.Node {
	draw := func(b []byte) []byte {
		out := make([]byte, len(b))
		for i := range out {
			out[i] = byte(32 + r.IntN(95))
			if r.IntN(3) == 0 {
				out[i] = `&<>"'; =/`[r.IntN(9)]
			}
		}
		return out
	}
	out := impl.Node{Kind: n.Kind, Name: n.Name, Text: draw(n.Text)}
	for _, a := range n.Attrs {
		out.Attrs = append(out.Attrs, impl.Attr{Name: a.Name, Val: draw(make([]byte, []int{0, 1, 7, 30}[r.IntN(4)]))})
	}
	for _, k := range n.Kids {
		out.Kids = append(out.Kids, sprinkled(r, k))
	}
	return out
}

func TestTidyTreesComeBack(t *testing.T) {
	r := rand.New(rand.NewPCG(3, 3))
	back, not := 0, 0
	for range 20000 {
		n := grown(r, 1+r.IntN(8), 0)
		if r.IntN(4) == 0 {
			n = elem("div", n)
			for range r.IntN(20) {
				n.Kids = append(n.Kids, grown(r, 1+r.IntN(20), 0))
			}
		}
		x := impl.Tidy(sprinkled(r, n))
		if !mayBe(x) {
			continue
		}
		b := impl.Markup(x)
		if len(b) > impl.MaxMarkup || !mayBe(body(x)) {
			checkNoTree(t, "above the limits", string(b))
			not++
			continue
		}
		checkTree(t, string(b), body(x))
		back++
	}
	if back < 10000 || not < 20 {
		t.Fatalf("%d came back, %d may not: the draw tells little", back, not)
	}
}

func TestTidyTreesComeBackAtTheLimits(t *testing.T) {
	for _, n := range []impl.Node{elem("p"), elem("br"), elem("body"), withAttrs(elem("hr"), "a", `"`), impl.Tidy(page()),
		nested(text("x"), impl.MaxDeep-1), elem("p", copies(elem("br"), impl.MaxParts-2)...),
		elem("p", text(strings.Repeat("&", 30)), text(strings.Repeat("<", 30)), text("x")),
		elem("p", text(strings.Repeat("x", 30)), text(strings.Repeat(" ", 30)), elem("i"), text("y"))} {
		checkTree(t, string(impl.Markup(n)), body(n))
	}
	checkNoTree(t, "one too deep for a body", string(impl.Markup(nested(text("x"), impl.MaxDeep))))
	checkNoTree(t, "one too many for a body", string(impl.Markup(elem("p", copies(elem("br"), impl.MaxParts-1)...))))
	fits := elem("p", append(copies(text(strings.Repeat("x", 30)), 49), text(strings.Repeat("y", 23)))...)
	checkTree(t, string(impl.Markup(fits)), body(fits))
	fits.Kids[49].Text = append(fits.Kids[49].Text, 'y')
	checkNoTree(t, "one byte too long", string(impl.Markup(fits)))
}

// spelled is markup of n as somebody else might write it: great and small
// letters, other quotes, blanks in tags, references where none must be.
func spelled(r *rand.Rand, n impl.Node) string {
	if n.Kind == impl.NdText {
		return spelledBytes(r, n.Text, "")
	}
	var out strings.Builder
	out.WriteString("<" + spelledName(r, n.Name))
	blank := func() string { return []string{" ", "\t", "\n", "\r", "  ", " / "}[r.IntN(6)] }
	for _, i := range r.Perm(len(n.Attrs)) {
		a := n.Attrs[i]
		out.WriteString(blank() + spelledName(r, a.Name))
		plain := !bytes.ContainsAny(a.Val, " >") && !bytes.HasPrefix(a.Val, []byte("'")) && !bytes.HasPrefix(a.Val, []byte(`"`))
		switch {
		case len(a.Val) == 0 && r.IntN(2) == 0:
		case plain && r.IntN(2) == 0:
			out.WriteString("=" + spelledBytes(r, a.Val, ""))
		case bytes.Contains(a.Val, []byte("'")) || r.IntN(2) == 0:
			out.WriteString(`="` + spelledBytes(r, a.Val, `"`) + `"`)
		default:
			out.WriteString("='" + spelledBytes(r, a.Val, "") + "'")
		}
		if r.IntN(4) == 0 {
			out.WriteString(" " + spelledName(r, a.Name) + "=again")
		}
	}
	out.WriteString([]string{"", " ", "\n"}[r.IntN(3)] + ">")
	for _, k := range n.Kids {
		out.WriteString(spelled(r, k))
	}
	if name := string(n.Name); name != "br" && name != "hr" || r.IntN(2) == 0 {
		out.WriteString("</" + spelledName(r, n.Name) + []string{"", " ", " a='>'"}[r.IntN(3)] + ">")
	}
	return out.String()
}

func spelledName(r *rand.Rand, name []byte) string {
	out := slices.Clone(name)
	for i, x := range out {
		if x >= 'a' && r.IntN(2) == 0 {
			out[i] = x - 32
		}
	}
	return string(out)
}

func spelledBytes(r *rand.Rand, b []byte, quote string) string {
	var out strings.Builder
	for _, x := range b {
		here := string([]byte{x})
		ref := map[string]string{"&": "&amp;", "<": "&lt;", ">": "&gt;", `"`: "&quot;"}[here]
		if ref != "" && (here == "&" || here == "<" || here == quote || r.IntN(2) == 0) {
			here = ref
		}
		out.WriteString(here)
		if r.IntN(10) == 0 {
			out.WriteString([]string{"\x00", "\x0b", "\x80", "\xff"}[r.IntN(4)])
		}
	}
	return out.String()
}

func TestGreatLettersMeanTheSame(t *testing.T) {
	r := rand.New(rand.NewPCG(3, 4))
	same := 0
	for range 20000 {
		x := impl.Tidy(sprinkled(r, grown(r, 1+r.IntN(6), 0)))
		b := spelled(r, x)
		if len(b) <= impl.MaxMarkup && mayBe(body(x)) {
			checkTree(t, b, body(x))
			same++
		}
	}
	if same < 10000 {
		t.Fatalf("%d of 20000: the draw tells little", same)
	}
	for x := byte('a'); x <= 'z'; x++ {
		great, small := string([]byte{x - 32}), string([]byte{x})
		checkTree(t, "<"+great+" "+great+"1="+great+">"+great+"</"+small+">"+great,
			body(withAttrs(elem(small, text(great)), small+"1", great), text(great)))
	}
}

func TestBuildLeavesArgumentsAlone(t *testing.T) {
	r := rand.New(rand.NewPCG(3, 5))
	rows := []string{"", "x", "<", "<p", `<P A="1" b='2' C=3 D>x&lt;</p>y`, strings.Repeat("x", impl.MaxMarkup), strings.Repeat("x", impl.MaxMarkup+1),
		strings.Repeat("<p>", 20), strings.Repeat("<br>", 120), strings.Repeat("<i b a>x</i>", 50)}
	for range 2000 {
		rows = append(rows, drawnBytes(r, r.IntN(60)))
	}
	for _, row := range rows {
		b := roomy([]byte(row))
		n, ok := impl.Build(b)
		other, _ := impl.Build(b)
		checkUntouched(t, b, []byte(row))
		checkNewMemory(t, n, b, other)
		before := shown(n)
		spoilNode(&other)
		checkUntouched(t, b, []byte(row))
		spoil(b)
		if shown(n) != before || ok && !impl.NodeOk(n) {
			t.Fatalf("Build(%q) shares memory", row)
		}
	}
}

func TestMarkupLeavesArgumentsAlone(t *testing.T) {
	r := rand.New(rand.NewPCG(3, 6))
	trees := append(wrongTrees(), page(), elem("p"), elem("br"), nested(text("x"), 20))
	for range 300 {
		trees = append(trees, sprinkled(r, grown(r, 6, 0)))
	}
	for _, plain := range trees {
		n := roomyOf(plain)
		before := shown(wholeOf(n))
		got := impl.Markup(n)
		checkNewMemory(t, got, n, impl.Markup(n))
		want := string(got)
		for range 2 {
			if shown(wholeOf(n)) != before {
				t.Fatalf("%s was written into", shown(plain))
			}
			spoil(got)
		}
		spoilNode(&n)
		checkShown(t, "Markup again", string(impl.Markup(plain)), want)
	}
}

func TestMarkupDoesNotReadBehindTheLength(t *testing.T) {
	whole := []byte(`a<Ul a="1&lt;2" b='x' c=3&gt;/ d>z&quot;<br/></uL >y&amp;`)
	for from := range whole {
		for to := from; to <= len(whole); to++ {
			want, wantOk := impl.Build([]byte(string(whole[from:to])))
			got, ok := impl.Build(whole[from:to])
			checkShown(t, "Build", got, want)
			if !ok || !wantOk {
				t.Fatal(ok, wantOk)
			}
		}
	}
	if n, ok := impl.Build(make([]byte, 2*impl.MaxMarkup)[:impl.MaxMarkup]); !ok || len(n.Kids) != 0 {
		t.Fatal("bytes behind the length are counted")
	}
	n := page()
	cut := n
	cut.Kids, cut.Attrs = n.Kids[:3], n.Attrs[:1]
	checkShown(t, "what is cut", string(impl.Markup(cut)), `<div class="big">onetwo</div>`)
}

func TestBuildOfEmptyLists(t *testing.T) {
	for _, b := range [][]byte{nil, {}, make([]byte, 0, 9), []byte("<p>")[:0]} {
		n, ok := impl.Build(b)
		if !ok {
			t.Fatal("no bytes are a body")
		}
		checkShown(t, "no bytes", n, body())
	}
	empty := impl.Node{Name: []byte("p"), Text: []byte{}, Attrs: []impl.Attr{}, Kids: []impl.Node{}}
	checkShown(t, "empty lists", string(impl.Markup(empty)), "<p></p>")
}

func TestMarkupEndsAtWhateverIsGiven(t *testing.T) {
	for i, n := range hugeTrees() {
		if got := impl.Markup(n); len(got) != 0 {
			t.Fatalf("tree %d has the markup %q", i, got)
		}
	}
	for _, unit := range []string{"<p>", "</p>", "<p a=\"", "<p a=", "&", "&amp;", "<", "</", "<a", "a=", "'", "x", "\x00", "\xff", "<br>", "<p a b c d e "} {
		for _, size := range []int{1, impl.MaxMarkup - 1, impl.MaxMarkup, impl.MaxMarkup + 1, 1 << 20} {
			checkAsRead(t, strings.Repeat(unit, size/len(unit)+1)[:size])
		}
	}
}

func TestMarkupCallsKeepNothing(t *testing.T) {
	for range 3 {
		checkTree(t, "<p>a<br>b</p>c", body(elem("p", text("a"), elem("br"), text("b")), text("c")))
		checkNoTree(t, "too deep", strings.Repeat("<p>", impl.MaxDeep))
		checkNoTree(t, "too many", strings.Repeat("<br>", impl.MaxParts))
		n, _ := impl.Build([]byte("<p a=1>x"))
		spoilNode(&n)
		spoil(impl.Markup(page()))
		checkTree(t, "x", body(text("x")))
		if got := impl.Markup(impl.Node{}); len(got) != 0 {
			t.Fatalf("%q of an earlier call is seen", got)
		}
	}
}
