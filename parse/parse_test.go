package parse_test

import (
	"math"
	"math/rand"
	"slices"
	"strings"
	"testing"

	"shipwright/api"
	"shipwright/lex"
	"shipwright/parse"
)

// P11.1, P11.2: the chapter's examples.
func TestExamples(t *testing.T) {
	x, spot := parse.Text("package a\nfunc f(x int) int { return x + 1 }")
	if spot != (api.Spot{}) {
		t.Fatalf("a function: %v", spot)
	}
	var kinds []int
	for _, n := range x.Nodes {
		kinds = append(kinds, n.Kind)
	}
	want := []int{api.NodeFile, api.NodeFunc, api.NodeParam, api.NodeBasic, api.NodeBasic, api.NodeBlock, api.NodeReturn, api.NodeBinary, api.NodeName, api.NodeInt}
	if !slices.Equal(kinds, want) {
		t.Errorf("a function: %v, want %v", kinds, want)
	}
	refuses(t, "package a\nfunc", 14)
	refuses(t, "package a;func", 14)
	refuses(t, "package a\nvar x int = if", 22)
	refuses(t, "package if", 8)
	refuses(t, "", 0)
}

// checkText holds Text against Lex and what Parse has to tell.
func checkText(t *testing.T, s string) (api.Tree, api.Spot) {
	t.Helper()
	got, spot := parse.Text(s)
	l, want := lex.Lex(s)
	var wantTree api.Tree
	if want == (api.Spot{}) {
		wantTree, want = check(t, l)
	}
	if spot != want || !equal(got, wantTree) {
		t.Fatalf("Text(%q): %v, %v, want %v, %v", s[:min(len(s), 80)], got, spot, wantTree, want)
	}
	return got, spot
}

// takes is a text that is a file.
func takes(t *testing.T, s string) api.Tree {
	t.Helper()
	x, spot := checkText(t, s)
	if spot != (api.Spot{}) {
		t.Errorf("Text(%q): %v", s, spot)
	}
	return x
}

// refuses is a text that is no file, wrong at a place.
func refuses(t *testing.T, s string, at int) {
	t.Helper()
	if x, spot := checkText(t, s); spot != (api.Spot{Err: api.ErrParse, At: at}) || len(x.Nodes) != 0 {
		t.Errorf("Text(%q): %v, %v, want error %d at %d", s, x, spot, api.ErrParse, at)
	}
}

// wrongAt is a text that is wrong at the place where @ stands in it.
func wrongAt(t *testing.T, s string) {
	t.Helper()
	at := strings.Index(s, "@")
	refuses(t, s[:at]+s[at+1:], at)
}

// contexts say where in a file a rule stands.
var contexts = map[string]string{
	"file":  "@",
	"decl":  "package a ; @ ;",
	"field": "package a ; type t struct { @ } ;",
	"param": "package a ; func f ( @ ) { } ;",
	"type":  "package a ; var x @ ;",
	"block": "package a ; func f ( ) @ ;",
	"stmt":  "package a ; func f ( ) { @ } ;",
	"if":    "package a ; func f ( ) { @ } ;",
	"expr":  "package a ; var x int = @ ;",
	"value": "package a ; const x = @ ;",
}

// simple is short ways of rules.
var simple = map[string][]string{
	"decl":   {"const c = 1", "var v t", "type t struct { }", "func f ( ) { }"},
	"field":  {"x int", "y a . t"},
	"param":  {"x int", "y a . t"},
	"type":   {"bool", "t", "a . t"},
	"block":  {"{ }", "{ x }"},
	"stmt":   {"x", "return", "{ }"},
	"if":     {"if x { }"},
	"expr":   {"x", "( 1 )"},
	"and":    {"x", "1 < 2"},
	"cmp":    {"x", "1 + 2"},
	"sum":    {"x", "1 * 2"},
	"term":   {"x", "- 1"},
	"unary":  {"x", "! y"},
	"post":   {"x", "f ( )"},
	"prim":   {"x", "( y )"},
	"value1": {"1", `"s"`, "true", "false"},
	"value":  {"1", `"s"`, "true", "- 1"},
}

// ways is every way through a piece: each of several, with and without what may be left out, none to three times what may come as often as you like; rules in it by short ways.
func ways(it item) []string {
	pairs := func(a, b []string) []string {
		var list []string
		for _, s := range a {
			for _, t := range b {
				list = append(list, strings.TrimSpace(s+" "+t))
			}
		}
		return list
	}
	switch it.op {
	case 't':
		return []string{map[string]string{"NAME": "n", "INT": "5", "TEXT": `"q"`, "END": ";"}[it.word] + strings.Trim(it.word, `"NAMEITXD`)}
	case 'r':
		return simple[it.word]
	case 's':
		list := []string{""}
		for _, sub := range it.sub {
			list = pairs(list, ways(sub))
		}
		return list
	case '|':
		var list []string
		for _, sub := range it.sub {
			list = append(list, ways(sub)...)
		}
		return list
	case '[':
		return append([]string{""}, ways(it.sub[0])...)
	}
	once := ways(it.sub[0])
	list, last := []string{""}, []string{""}
	for range 3 {
		last = pairs(last, once)
		list = append(list, last[:min(len(last), 200)]...)
	}
	return list
}

// P11.1: each way of each rule.
func TestEachWay(t *testing.T) {
	for name, it := range rules {
		where := contexts[name]
		if where == "" {
			where = contexts["expr"]
		}
		list := ways(it)
		for _, s := range list {
			l := say(strings.Replace(where, "@", s, 1))
			if _, spot := check(t, l); spot != (api.Spot{}) {
				t.Fatalf("%s: %s: %v", name, shown(l), spot)
			}
		}
		if len(list) < 2 {
			t.Errorf("%s: %q", name, list)
		}
	}
}

// P11.1: files by chance, and files of which some tokens are others.
func TestChance(t *testing.T) {
	r := rand.New(rand.NewSource(1))
	errs := map[api.Errno]int{}
	for range 2000 {
		l := chance(r)
		_, spot := check(t, l)
		errs[spot.Err]++
		for range 2 {
			i := r.Intn(len(l))
			one := alphabet[r.Intn(len(alphabet))]
			_, spot := check(t, place(slices.Concat(l[:i], []api.Token{one}, l[i+r.Intn(2):]), 1))
			errs[spot.Err]++
		}
	}
	for _, err := range []api.Errno{api.OK, api.ErrArg, api.ErrLong, api.ErrParse} {
		if errs[err] == 0 {
			t.Errorf("no error %d among %v", err, errs)
		}
	}
}

// P11.1: each beginning of files, also with a stray token behind it, and with ends.
func TestBeginnings(t *testing.T) {
	for _, s := range files {
		l := mustLex(t, s)
		for i := range len(l) + 1 {
			begin := l[:i]
			check(t, place(begin, 1))
			check(t, place(append(slices.Clone(begin), semi), 1))
			check(t, place(append(slices.Clone(begin), bare), 1))
			list := place(append(slices.Clone(begin), stray), 1)
			if _, spot := check(t, list); spot != (api.Spot{Err: api.ErrParse, At: list[i].At}) {
				t.Errorf("Parse(%s): %v", shown(list), spot)
			}
		}
	}
	wrongAt(t, "package a\nvar x int =@ // c\n\n")
	wrongAt(t, "package a\nfunc f() { x;@")
	wrongAt(t, "package a\nfunc f(x int,@")
	wrongAt(t, "package a\nvar x int = 1 +@")
	wrongAt(t, "package a\nvar x bool = a <=@ ")
	wrongAt(t, "package a\nfunc f() {@  \n")
	wrongAt(t, "package a\nfunc f() { x@\n")
	wrongAt(t, "package a\nfunc f() { if x { }@")
}

// P11.1: each token of files left out, doubled, or another one in its place.
func TestEachToken(t *testing.T) {
	for _, s := range files {
		l := mustLex(t, s)
		for i := range l {
			check(t, place(slices.Concat(l[:i], l[i+1:]), 1))
			check(t, place(slices.Concat(l[:i+1], l[i:]), 1))
			for _, one := range append(alphabet, bare) {
				check(t, place(slices.Concat(l[:i], []api.Token{one}, l[i+1:]), 1))
			}
		}
	}
}

// P11.1: a token put ahead of each token, and behind the last one.
func TestOneMore(t *testing.T) {
	for _, s := range files {
		l := mustLex(t, s)
		for i := range len(l) + 1 {
			for _, one := range append(alphabet, bare) {
				check(t, place(slices.Concat(l[:i], []api.Token{one}, l[i:]), 1))
			}
		}
	}
}

// P11.1: with which tokens a file goes on behind each beginning of up to so many tokens more than these.
func TestGoesOn(t *testing.T) {
	for _, begin := range []struct {
		words string
		more  int
	}{
		{"", 6},
		{"package a ; import \"b\" ;", 3},
		{"package a ; type t struct {", 3},
		{"package a ; func (", 4},
		{"package a ; func f ( x", 4},
		{"package a ; func f ( ) {", 3},
		{"package a ; func f ( ) { x ;", 2},
		{"package a ; func f ( ) { if x { }", 3},
		{"package a ; func f ( ) { return", 2},
		{"package a ; var x int =", 3},
		{"package a ; var x int = a < b", 3},
		{"package a ; var x int = f ( a", 3},
		{"package a ; const x =", 3},
	} {
		goesOn(t, tokens(strings.Fields(begin.words)), begin.more)
	}
}

// goesOn tries all tokens behind a beginning, and goes on with the right ones.
func goesOn(t *testing.T, begin []api.Token, more int) {
	t.Helper()
	s := seek(begin)
	for _, one := range alphabet {
		list := place(append(slices.Clone(begin), one, stray), 1)
		at := list[len(begin)].At
		right := s.goesOn(one)
		if right {
			at = list[len(begin)+1].At
		}
		if x, spot := parse.Parse(list); spot != (api.Spot{Err: api.ErrParse, At: at}) || len(x.Nodes) != 0 {
			t.Fatalf("Parse(%s): %v, want error %d at %d", shown(list), spot, api.ErrParse, at)
		}
		if right && more > 1 {
			goesOn(t, list[:len(begin)+1], more-1)
		}
	}
}

// P11.1: no kept word is a name, and no name a kept word.
func TestKeptWords(t *testing.T) {
	for _, w := range kept {
		wrongAt(t, "package @"+w)
		wrongAt(t, "package a; const @"+w+" = 1")
		wrongAt(t, "package a; var @"+w+" int")
		wrongAt(t, "package a; type @"+w+" struct { }")
		wrongAt(t, "package a; type t struct { @"+w+" int }")
		wrongAt(t, "package a; func @"+w+"() { }")
		wrongAt(t, "package a; func (@"+w+" t) f() { }")
		wrongAt(t, "package a; func (x @"+w+") f() { }")
		wrongAt(t, "package a; func f(@"+w+" int) { }")
		wrongAt(t, "package a; func f(x int, @"+w+" int) { }")
		wrongAt(t, "package a; var x b.@"+w)
		wrongAt(t, "package a; func f() { var @"+w+" int }")
		wrongAt(t, "package a; func f() { x.@"+w+" }")
		if !slices.Contains([]string{"int", "bool", "string"}, w) {
			wrongAt(t, "package a; var x @"+w)
			wrongAt(t, "package a; func f(x @"+w+") { }")
			wrongAt(t, "package a; func f() @"+w+" { }")
			wrongAt(t, "package a; var x @"+w+".t")
		} else {
			takes(t, "package a; var x "+w)
			wrongAt(t, "package a; var x "+w+"@.t")
		}
		if w != "true" && w != "false" {
			wrongAt(t, "package a; var x int = @"+w)
			wrongAt(t, "package a; var x int = f(@"+w+")")
			wrongAt(t, "package a; var x int = 1 + @"+w)
			wrongAt(t, "package a; var x int = -@"+w)
			wrongAt(t, "package a; const x = @"+w)
		} else {
			takes(t, "package a; var x int = "+w)
			takes(t, "package a; const x = "+w)
			wrongAt(t, "package a; const x = -@"+w)
			wrongAt(t, "package a; func f() { "+w+" @:= 1 }")
		}
		// A name that has a kept word in it is a name.
		takes(t, "package a"+w+"; var "+w+"_ "+strings.ToUpper(w)+" = "+w+"1."+w+w)
	}
	wrongAt(t, "@pack a")
	wrongAt(t, "package a; @imports \"b\"")
	wrongAt(t, "package a; @x = 1")
	wrongAt(t, "package a; type t @interface { }")
	wrongAt(t, "package a; func f() { if x { } @els { } }")
	wrongAt(t, "package a; func f() { fo @x { } }")
	wrongAt(t, "package a; func f() { iff @x { } }")
	wrongAt(t, "package a; func f() { returns @1 }")
	wrongAt(t, "package a; func f() { vars @x int }")
	wrongAt(t, "package a; func f() { @const x = 1 }")
	wrongAt(t, "package a; func f() { @type t struct { } }")
	wrongAt(t, "package a; func f() { @func g() { } }")
	wrongAt(t, "package a; func f() { @import \"b\" }")
	wrongAt(t, "package a; func f() { @else { } }")
	wrongAt(t, "package a; var x int; @import \"b\"")
	wrongAt(t, "package a; @package b")
}

// signRows are the signs between two expressions, row by row.
var signRows = [][]string{{"||"}, {"&&"}, {"==", "!=", "<", "<=", ">", ">="}, {"+", "-"}, {"*", "/", "%"}}

// formed is an expression with brackets round each NodeBinary and NodeUnary.
func formed(x api.Tree, i int) string {
	n := x.Nodes[i]
	switch n.Kind {
	case api.NodeBinary:
		return "(" + formed(x, n.Kids[0]) + n.Text + formed(x, n.Kids[1]) + ")"
	case api.NodeUnary:
		return "(" + n.Text + formed(x, n.Kids[0]) + ")"
	case api.NodeDot:
		return "(" + formed(x, n.Kids[0]) + "." + n.Text + ")"
	case api.NodeCall:
		s := "(" + formed(x, n.Kids[0])
		for _, k := range n.Kids[1:] {
			s += "," + formed(x, k)
		}
		return s + "())"
	}
	return n.Text
}

// forms is an expression whose tree is said by hand, with brackets round each node.
func forms(t *testing.T, s, want string) {
	t.Helper()
	x := takes(t, "package p; var v int = "+s)
	if len(x.Nodes) == 0 {
		return
	}
	if got := formed(x, 3); got != want {
		t.Errorf("%s: %s, want %s", s, got, want)
	}
}

// P11.1: signs of each row beside signs of each row, with brackets and without.
func TestRows(t *testing.T) {
	for i, row := range signRows {
		for j, other := range signRows {
			for _, f := range row {
				for _, g := range other {
					plain := "a " + f + " b " + g + " c"
					left, right := "((a"+f+"b)"+g+"c)", "(a"+f+"(b"+g+"c))"
					forms(t, "(a "+f+" b) "+g+" c", left)
					forms(t, "a "+f+" (b "+g+" c)", right)
					switch {
					case i == 2 && j == 2:
						wrongAt(t, "package p; var v int = a "+f+" b @"+g+" c")
					case j > i:
						forms(t, plain, right)
					default:
						forms(t, plain, left)
					}
					forms(t, "-a "+f+" !b", "((-a)"+f+"(!b))")
					forms(t, "-(a "+f+" b)", "(-(a"+f+"b))")
				}
			}
		}
	}
	forms(t, "a - b - c - d", "(((a-b)-c)-d)")
	forms(t, "a || b || c && d && e", "((a||b)||((c&&d)&&e))")
	forms(t, "a * b / c % d", "(((a*b)/c)%d)")
	forms(t, "a < b && c == d || e", "(((a<b)&&(c==d))||e)")
	forms(t, "a < (b < c)", "(a<(b<c))")
	forms(t, "(a < b) < (c < d)", "((a<b)<(c<d))")
	forms(t, "a + b < c - d * e", "((a+b)<(c-(d*e)))")
	wrongAt(t, "package p; var v int = a < b && c < d @< e")
	wrongAt(t, "package p; var v int = a == b @== c")
	wrongAt(t, "package p; var v int = f(a < b @>= c)")
	wrongAt(t, "package p; var v int = (a < b @< c)")
	wrongAt(t, "package p; var v int = a < b + c @!= d")
}

// P11.1: signs ahead of expressions, points, calls, brackets.
func TestTight(t *testing.T) {
	forms(t, "-a", "(-a)")
	forms(t, "--a", "(-(-a))")
	forms(t, "!-!a", "(!(-(!a)))")
	forms(t, "-a.b", "(-(a.b))")
	forms(t, "-a(b)", "(-(a,b()))")
	forms(t, "(-a).b", "((-a).b)")
	forms(t, "(-a)(b)", "((-a),b())")
	forms(t, "(a + b).c", "((a+b).c)")
	forms(t, "a + b.c", "(a+(b.c))")
	forms(t, "a.b.c", "((a.b).c)")
	forms(t, "a()()", "((a())())")
	forms(t, "a().b(c, d.e)", "(((a()).b),c,(d.e)())")
	forms(t, "a(b(c(d)))", "(a,(b,(c,d())())())")
	forms(t, "(a)", "a")
	forms(t, "((a))", "a")
	forms(t, "((((a)))).b", "(a.b)")
	forms(t, "a - -b", "(a-(-b))")
	forms(t, "a--b", "(a-(-b))")
	forms(t, "true.a(false)", "((true.a),false())")
	takes(t, "package p; var v int = \"a\".b + 1 .c - \"d\"(2)")
	wrongAt(t, "package p; var v int = (@)")
	wrongAt(t, "package p; var v int = a(b,@)")
	wrongAt(t, "package p; var v int = a(@, b)")
	wrongAt(t, "package p; var v int = a(b @c)")
	wrongAt(t, "package p; var v int = a.@1")
	wrongAt(t, "package p; var v int = a.@(b)")
	wrongAt(t, "package p; var v int = @+a")
	wrongAt(t, "package p; var v int = a @! b")
	wrongAt(t, "package p; var v int = a@[b]")
	wrongAt(t, "package p; var v int = (a@, b)")
	wrongAt(t, "package p; var v int = (a@; b)")
	wrongAt(t, "package p; var v int = a@) ")
	wrongAt(t, "package p; var v int = a @b")
	wrongAt(t, "package p; var v int = a @= b")
	wrongAt(t, "package p; var v int @:= b")
}

// P11.1: a const's value.
func TestConst(t *testing.T) {
	for s, want := range map[string]string{"12": "int 12", "-12": "- of int 12", `"a"`: "text a", "true": "bool true", "false": "bool false", "0": "int 0", "-0": "- of int 0"} {
		x := takes(t, "package p; const c = "+s)
		var parts []string
		for i, n := range x.Nodes[2:] {
			switch n.Kind {
			case api.NodeUnary:
				parts = append(parts, n.Text, "of")
			case api.NodeInt:
				parts = append(parts, "int", strings.TrimPrefix(s, "-"))
				if n.Num != map[bool]int64{true: 12}[strings.Contains(s, "12")] || n.Text != "" {
					t.Errorf("%s: %v", s, n)
				}
			case api.NodeText:
				parts = append(parts, "text", n.Text)
			case api.NodeBool:
				parts = append(parts, "bool", n.Text)
			default:
				t.Errorf("%s: node %d: %v", s, i, n)
			}
		}
		if got := strings.Join(parts, " "); got != want {
			t.Errorf("%s: %s, want %s", s, got, want)
		}
	}
	x := takes(t, "package p; const c = 9223372036854775807")
	if x.Nodes[2].Num != math.MaxInt64 {
		t.Errorf("%v", x)
	}
	wrongAt(t, "package p; const c = @a")
	wrongAt(t, "package p; const c = @(1)")
	wrongAt(t, "package p; const c = @!true")
	wrongAt(t, "package p; const c = -@-1")
	wrongAt(t, "package p; const c = -@\"a\"")
	wrongAt(t, "package p; const c = -@true")
	wrongAt(t, "package p; const c = -@a")
	wrongAt(t, "package p; const c = -@(1)")
	wrongAt(t, "package p; const c = 1 @+ 1")
	wrongAt(t, "package p; const c = -1 @- 1")
	wrongAt(t, "package p; const c@")
	wrongAt(t, "package p; const c @int = 1")
	wrongAt(t, "package p; const c @:= 1")
}

// P11.1: what stands behind else.
func TestElse(t *testing.T) {
	body := func(s string) string { return "package p; func f() { " + s + " }" }
	kinds := func(s string) string {
		x := takes(t, body(s))
		list := ""
		for _, n := range x.Nodes[3:] {
			list += letters[n.Kind-1 : n.Kind]
		}
		return list
	}
	for s, want := range map[string]string{
		"if a { }":                                "NWM",
		"if a { } else { }":                       "NWMM",
		"if a { } else if b { }":                  "NWMNWM",
		"if a { } else if b { } else { }":         "NWMNWMM",
		"if a { b } else { c }":                   "NWMSWMSW",
		"if a { if b { } else { } }":              "NWMNWMM",
		"if a { if b { } } else { }":              "NWMNWMM",
		"if a { }; { }":                           "NWMM",
		"for a { }":                               "OWM",
		"for a { for b { } }":                     "OWMOWM",
		"if (a) { } else if (b) { } else { c() }": "NWMNWMMSYW",
	} {
		if got := kinds(s); got != want {
			t.Errorf("%s: %s, want %s", s, got, want)
		}
	}
	x := takes(t, body("if a { if b { } else { } }"))
	if n := x.Nodes[3]; len(n.Kids) != 2 {
		t.Errorf("the else is the outer if's: %v", x)
	}
	wrongAt(t, body("if a { } else @x"))
	wrongAt(t, body("if a { } else @; { }"))
	wrongAt(t, body("if a { } else @for b { }"))
	wrongAt(t, body("if a { } else { } @else { }"))
	wrongAt(t, body("if a { }\n@else { }"))
	wrongAt(t, body("if a { }; @else { }"))
	wrongAt(t, body("if a@\n{ }"))
	wrongAt(t, body("if @{ }"))
	wrongAt(t, body("if a @b { }"))
	wrongAt(t, body("if a @:= b { }"))
	wrongAt(t, body("if a@; b { }"))
	wrongAt(t, body("if a { } @{ }"))
	wrongAt(t, body("if a { } @b"))
	wrongAt(t, body("for @{ }"))
	wrongAt(t, body("for a@; b; c { }"))
	wrongAt(t, body("for a @:= b { }"))
	wrongAt(t, body("for a { } @else { }"))
}

// P11.1: where ends stand, with Text and without.
func TestEnds(t *testing.T) {
	for _, s := range []string{"package a", "package a\n", "package a;", "package a // c", "package a\n\n\n", "package a;\n"} {
		takes(t, s)
	}
	wrongAt(t, "package a;@;")
	wrongAt(t, "package a\n@;")
	wrongAt(t, "@;package a")
	wrongAt(t, "package@\na")
	wrongAt(t, "package@;a")
	wrongAt(t, "package a @var x int")
	wrongAt(t, "package a; import \"b\" @import \"c\"")
	wrongAt(t, "package a; import@\n\"b\"")
	wrongAt(t, "package a; import \"b\";@; var x int")
	wrongAt(t, "package a; var x int @var y int")
	wrongAt(t, "package a; var x int;@;")
	wrongAt(t, "package a; var x@\nint")
	wrongAt(t, "package a; var x int\n@= 1")
	takes(t, "package a; type t struct { x int }")
	takes(t, "package a; type t struct { x int; }")
	takes(t, "package a; type t struct { x int; y int }")
	takes(t, "package a; type t struct {\nx int\ny int\n}")
	takes(t, "package a; type t struct {\n}")
	wrongAt(t, "package a; type t struct { @; }")
	wrongAt(t, "package a; type t struct { @; x int }")
	wrongAt(t, "package a; type t struct { x int;@; }")
	wrongAt(t, "package a; type t struct { x int;@; y int }")
	wrongAt(t, "package a; type t struct { x int @y int }")
	wrongAt(t, "package a; type t struct { x int@, y int }")
	wrongAt(t, "package a; type t struct@\n{ }")
	takes(t, "package a; func f() { x }")
	takes(t, "package a; func f() { x; }")
	takes(t, "package a; func f() { x; y }")
	takes(t, "package a; func f() {\nx\ny\n}")
	takes(t, "package a; func f() {\n}")
	takes(t, "package a; func f() { return }")
	takes(t, "package a; func f() { return; }")
	takes(t, "package a; func f() { return; x }")
	takes(t, "package a; func f() { return\n}")
	takes(t, "package a; func f() { { }; { }; }")
	wrongAt(t, "package a; func f() { @; }")
	wrongAt(t, "package a; func f() { @; x }")
	wrongAt(t, "package a; func f() { x;@; }")
	wrongAt(t, "package a; func f() { x\n@; }")
	wrongAt(t, "package a; func f() { x;@; y }")
	wrongAt(t, "package a; func f() { x @y }")
	wrongAt(t, "package a; func f() { { } @{ } }")
	wrongAt(t, "package a; func f()@\n{ }")
	wrongAt(t, "package a; func f(x int@\n) { }")
	wrongAt(t, "package a; func f(x int,@) { }")
	wrongAt(t, "package a; func f() { f(a@\n) }")
	wrongAt(t, "package a; func f() { f(a,\n@) }")
	takes(t, "package a; func f() { f(a,\nb) }")
	takes(t, "package a; func f() { x =\ny }")
	wrongAt(t, "package a; func f() { x = y @= z }")
	wrongAt(t, "package a; func f() { x := y @:= z }")
	wrongAt(t, "package a; func f() { x.y @:= z }")
	wrongAt(t, "package a; func f() { (x) @:= z }")
	wrongAt(t, "package a; func f() { 1 @:= z }")
	wrongAt(t, "package a; func f() { @:= z }")
	wrongAt(t, "package a; func f() { var x int @:= z }")
	wrongAt(t, "package a; func f() { return x @= z }")
	wrongAt(t, "package a; func f() { return x@, z }")
	wrongAt(t, "package a; func f() { return @return }")
	takes(t, "package a; func f() { 1 = 2; a + b = -c; f() = \"s\" }")
	// Each end of a file, the other way round.
	for _, s := range files {
		l := mustLex(t, s)
		for i, one := range l {
			if one.Kind != api.TokEnd {
				continue
			}
			for _, end := range []api.Token{semi, bare} {
				list := place(slices.Concat(l[:i], []api.Token{end}, l[i+1:]), 1)
				if _, spot := check(t, list); spot != (api.Spot{}) {
					t.Errorf("Parse(%s): %v", shown(list), spot)
				}
			}
		}
	}
}

// P11.1: how functions are declared.
func TestFuncs(t *testing.T) {
	for _, s := range []string{"f()", "f(x int)", "f(x a.b, y c)", "f() int", "f() a.b", "(x t) f()", "(x t) f(y int) bool"} {
		takes(t, "package a; func "+s+" { }")
		wrongAt(t, "package a; func "+s+"@;")
	}
	wrongAt(t, "package a; func (@) f() { }")
	wrongAt(t, "package a; func (x@) f() { }")
	wrongAt(t, "package a; func (x @int) f() { }")
	wrongAt(t, "package a; func (x t@.u) f() { }")
	wrongAt(t, "package a; func (x t@, y t) f() { }")
	wrongAt(t, "package a; func (x @*t) f() { }")
	wrongAt(t, "package a; func (x t) @(y t) f() { }")
	wrongAt(t, "package a; func (x t) f@.g() { }")
	wrongAt(t, "package a; func f@{ }")
	wrongAt(t, "package a; func f(x@) { }")
	wrongAt(t, "package a; func f(x@, y int) { }")
	wrongAt(t, "package a; func f(x int @y int) { }")
	wrongAt(t, "package a; func f(x int@; y int) { }")
	wrongAt(t, "package a; func f() @(int) { }")
	wrongAt(t, "package a; func f() int @bool { }")
	wrongAt(t, "package a; func f() a.b@.c { }")
	wrongAt(t, "package a; func f() { } @{ }")
}

// P11.1: tokens that may not be, and places.
func TestArguments(t *testing.T) {
	arg := func(l ...api.Token) {
		t.Helper()
		if x, spot := check(t, l); spot != (api.Spot{Err: api.ErrArg}) || len(x.Nodes) != 0 {
			t.Errorf("Parse(%v): %v, %v", l, x, spot)
		}
	}
	if x, spot := check(t, nil); spot != (api.Spot{Err: api.ErrParse}) || len(x.Nodes) != 0 {
		t.Errorf("no tokens: %v, %v", x, spot)
	}
	check(t, []api.Token{})
	right := say("package a ; var x int = 1 ;")
	if _, spot := check(t, right); spot != (api.Spot{}) {
		t.Fatal(spot)
	}
	// Wrong tokens in each place, wrong for the grammar, too, or not.
	for i := range right {
		for _, one := range []api.Token{{}, {Kind: 6, Text: "a"}, {Kind: -1}, {Kind: 1}, {Kind: 1, Text: "1"}, {Kind: 1, Text: "a b"}, {Kind: 1, Text: strings.Repeat("a", 25)}, {Kind: 2, Text: "01"}, {Kind: 2, Text: "-1"}, {Kind: 2, Text: "9223372036854775808"}, {Kind: 3, Text: "a"}, {Kind: 3, Text: `"`}, {Kind: 4, Text: "&"}, {Kind: 4, Text: ";"}, {Kind: 5, Text: "\n"}, {Kind: 5, Text: "a"}} {
			list := slices.Clone(right)
			one.At = list[i].At
			list[i] = one
			arg(list...)
		}
		for _, at := range []int{-1, -100, math.MinInt} {
			list := slices.Clone(right)
			list[i].At = at
			arg(list...)
		}
		if i > 0 {
			for _, at := range []int{right[i-1].At, right[i-1].At - 1, 0} {
				list := slices.Clone(right)
				list[i].At = at
				arg(list...)
			}
			list := slices.Clone(right)
			list[i-1], list[i] = list[i], list[i-1]
			arg(list...)
		}
		arg(append(slices.Clone(right[:i]), bare, stray)...)
	}
	arg(right[:2]...)
	arg(say("a")...)
	arg(say("package")...)
	arg(slices.Concat(right[:3], []api.Token{{Kind: 5, At: 50}})...)
	arg(api.Token{Kind: 4, Text: ":", At: -1})
	arg(api.Token{Kind: 5, Text: ";", At: math.MinInt})
	// Places may begin at 0, have gaps, and lap over.
	for _, places := range [][]int{{0, 1, 2}, {0, 8, 9}, {5, 100, 1 << 40}, {0, 1, math.MaxInt - 100}} {
		list := say("package a ;")
		for i := range list {
			list[i].At = places[i]
		}
		x, spot := check(t, list)
		if spot != (api.Spot{}) || len(x.Nodes) != 1 || x.Nodes[0].At != places[1] || x.Nodes[0].From != places[0] || x.Nodes[0].To != places[2]+1 {
			t.Errorf("Parse(%v): %v, %v", list, x, spot)
		}
		list[2] = api.Token{Kind: 4, Text: ":", At: places[2]}
		if _, spot := check(t, list); spot != (api.Spot{Err: api.ErrParse, At: places[2]}) {
			t.Errorf("Parse(%v): %v", list, spot)
		}
	}
	// More than MaxTokens.
	many := func(n int) []api.Token { return place(slices.Repeat([]api.Token{stray}, n), 1) }
	if _, spot := check(t, many(1024)); spot != (api.Spot{Err: api.ErrParse, At: 1}) {
		t.Errorf("1024 tokens: %v", spot)
	}
	arg(many(1025)...)
}

// P11.1: MaxDepth, and one more, by each way of nesting; ErrParse goes ahead of it.
func TestDeep(t *testing.T) {
	expr := func(s string) string { return "package a ; var x int = " + s + " ;" }
	stmt := func(s string) string { return "package a ; func f ( ) { " + s + " } ;" }
	for _, way := range []struct {
		name, ahead, middle, behind string
		where                       func(string) string
		first, step                 int // how deep it is without a turn, and how much deeper by each
	}{
		{"signs ahead", "- ", "a", "", expr, 3, 1},
		{"left", "", "a", " + a", expr, 3, 1},
		{"right", "a + ( ", "a", " )", expr, 3, 1},
		{"both", "a + ( ", "a", " ) + a", expr, 3, 2},
		{"points", "", "a", " . b", expr, 3, 1},
		{"calls", "", "a", " ( )", expr, 3, 1},
		{"calls with brackets", "( ", "a", " ) ( )", expr, 3, 1},
		{"handed", "f ( ", "a", " )", expr, 3, 1},
		{"handed second", "f ( b , ", "a", " )", expr, 3, 1},
		{"comparisons", "( ", "a", " ) < b", expr, 3, 1},
		{"rows", "! ( ", "a", " && b )", expr, 3, 2},
		{"blocks", "{ ", "return", " }", stmt, 4, 1},
		{"blocks with ends", "{ ", "return", " ; }", stmt, 4, 1},
		{"ifs", "if a { ", "return", " }", stmt, 4, 2},
		{"elses", "if a { } else { ", "return", " }", stmt, 4, 2},
		{"else ifs", "if a { } else ", "if a { }", "", stmt, 5, 1},
		{"fors", "for a { ", "return", " }", stmt, 4, 2},
		{"in an assignment", "b ( ", "c", " )", func(s string) string { return stmt("a = " + s) }, 5, 1},
	} {
		for turns := 0; turns < 30; turns++ {
			ahead, behind := strings.Repeat(way.ahead, turns), strings.Repeat(way.behind, turns)
			l := say(way.where(ahead + way.middle + behind))
			want := way.first + turns*way.step
			x, spot := check(t, l)
			if want > 24 {
				if spot != (api.Spot{Err: api.ErrLong}) || len(x.Nodes) != 0 {
					t.Errorf("%s, %d times: %v", way.name, turns, spot)
				}
			} else if spot != (api.Spot{}) || parse.Depth(x) != want {
				t.Errorf("%s, %d times: %v, %d deep, want %d", way.name, turns, spot, parse.Depth(x), want)
			}
			// No file any more: that is told, however deep it would be.
			list := place(append(slices.Clone(l), stray), 1)
			if _, spot := check(t, list); spot != (api.Spot{Err: api.ErrParse, At: list[len(l)].At}) {
				t.Errorf("%s, %d times, and a stray token: %v", way.name, turns, spot)
			}
			list = place(append(slices.Clone(l[:len(l)-1]), stray), 1)
			if _, spot := check(t, list); spot != (api.Spot{Err: api.ErrParse, At: list[len(l)-1].At}) {
				t.Errorf("%s, %d times, and a stray end: %v", way.name, turns, spot)
			}
		}
	}
	// Brackets make no node, and so nothing deeper.
	l := say(expr(strings.Repeat("( ", 500) + "a" + strings.Repeat(" )", 500)))
	if x, spot := parse.Parse(l); spot != (api.Spot{}) || parse.Depth(x) != 3 || len(x.Nodes) != 4 {
		t.Errorf("500 brackets: %v", spot)
	}
	// As deep as tokens go.
	for _, s := range []string{strings.Repeat("- ", 1000) + "a", "a" + strings.Repeat(" + a", 500), "a" + strings.Repeat(" . a", 500), strings.Repeat("f ( ", 300) + strings.Repeat(") ", 300)} {
		if x, spot := parse.Parse(say(expr(s))); spot != (api.Spot{Err: api.ErrLong}) || len(x.Nodes) != 0 {
			t.Errorf("%.20s..: %v", s, spot)
		}
	}
	for _, s := range []string{strings.Repeat("{ ", 400) + strings.Repeat("} ", 400), "if a { } " + strings.Repeat("else if a { } ", 190)} {
		if x, spot := parse.Parse(say(stmt(s))); spot != (api.Spot{Err: api.ErrLong}) || len(x.Nodes) != 0 {
			t.Errorf("%.20s..: %v", s, spot)
		}
	}
	// As many nodes as tokens give.
	l = say(stmt(strings.Repeat("a + b ; ", 250)))
	if x, spot := parse.Parse(l); spot != (api.Spot{}) || len(x.Nodes) != 3+250*4 {
		t.Errorf("250 statements: %v, %d nodes", spot, len(x.Nodes))
	}
}

// P11.2: Text.
func TestText(t *testing.T) {
	for _, s := range files {
		takes(t, s)
		takes(t, s+" // c")
		takes(t, "// c\n\n"+s)
		takes(t, strings.ReplaceAll(s, "\n", "\n\n\t"))
		if got, spot := parse.Text(s); spot != (api.Spot{}) || got.Nodes[0].Kind != api.NodeFile {
			t.Errorf("Text(%q): %v", s, spot)
		}
	}
	fails := func(s string, err api.Errno, at int) {
		t.Helper()
		if x, spot := checkText(t, s); spot != (api.Spot{Err: err, At: at}) || len(x.Nodes) != 0 {
			t.Errorf("Text(%.40q): %v, %v, want error %d at %d", s, x, spot, err, at)
		}
	}
	fails("package a\n#", api.ErrLex, 10)
	fails("package a\nvar x int = \"a", api.ErrLex, 22)
	fails("package a\nvar x int = 007", api.ErrNumber, 22)
	fails("package a\nvar x int = 1a", api.ErrNumber, 22)
	fails("package a\nvar x int = 9223372036854775808", api.ErrNumber, 22)
	fails("package a\nvar "+strings.Repeat("x", 25)+" int", api.ErrLong, 14)
	fails("package a\n"+strings.Repeat("+", 1023), api.ErrLong, 10+1021)
	// What Lex tells goes ahead of what Parse tells, wherever it stands.
	fails("if if if #", api.ErrLex, 9)
	fails(": 00", api.ErrNumber, 2)
	long := func(n int) string { return "package a //" + strings.Repeat("c", n-12) }
	takes(t, long(4096))
	fails(long(4097), api.ErrLong, 0)
	fails(strings.Repeat("#", 4097), api.ErrLong, 0)
	fails(strings.Repeat("+", 4096), api.ErrLong, 1024)
	fails(strings.Repeat(" ", 4096), api.ErrParse, 0)
	fails("package a; var x int = "+strings.Repeat("-", 22)+"a", api.ErrLong, 0)
	fails("// c", api.ErrParse, 0)
	fails("\n\n", api.ErrParse, 0)
	fails("  package", api.ErrParse, 9)
	fails("  ;", api.ErrParse, 2)
}
