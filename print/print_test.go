package print_test

import (
	"math"
	"math/rand"
	"slices"
	"strings"
	"testing"

	"shipwright/api"
	"shipwright/lex"
	"shipwright/parse"
	"shipwright/print"
)

// forms holds Form of a text against a text that is said by hand, and all that follows of it.
func forms(t *testing.T, text, want string) {
	t.Helper()
	if s, spot := checkText(t, text); s != want || spot != (api.Spot{}) {
		t.Errorf("Form(%q): %q, %v, want %q", text, s, spot, want)
	}
	if s, err := checkTree(t, mustTree(t, text)); s != want || err != api.OK {
		t.Errorf("Print of the tree of %q: %q, error %d, want %q", text, s, err, want)
	}
	if print.Formed(text) != (text == want) || !print.Formed(want) {
		t.Errorf("Formed(%q): %v; Formed(%q): %v", text, print.Formed(text), want, print.Formed(want))
	}
}

// in is a text of a file that has statements, and the text that is told of it, the lines given.
func in(stmts string, lines ...string) (text, want string) {
	return "package a;func f(){" + stmts + "}", "package a\n\nfunc f() {\n" + said(lines...) + "}\n"
}

// said is lines, a tabulator ahead of each.
func said(lines ...string) string {
	var b strings.Builder
	for _, s := range lines {
		b.WriteString("\t" + s + "\n")
	}
	return b.String()
}

// P12.1 to P12.3: the chapter's examples.
func TestExamples(t *testing.T) {
	forms(t, "package a;func f(x int)int{return (x)+1}", "package a\n\nfunc f(x int) int {\n\treturn x + 1\n}\n")
	forms(t, "package a;type t struct{x int;y b.c}", "package a\n\ntype t struct {\n\tx int\n\ty b.c\n}\n")
	x := mustTree(t, "package a;func f(){return -(a+b)*f(1,\"\\n\")}")
	for i, n := range x.Nodes {
		if n.Kind != api.NodeReturn {
			continue
		}
		if s, err := print.Node(x, n.Kids[0]); s != `-(a + b) * f(1, "\n")` || err != api.OK {
			t.Errorf("Node: %q, error %d", s, err)
		}
		if s, err := print.Node(x, i); s != "" || err != api.ErrArg {
			t.Errorf("Node of return: %q, error %d", s, err)
		}
	}
	if print.Formed("package a;") || !print.Formed("package a\n") {
		t.Error("Formed")
	}
	if s, spot := print.Form("package"); s != "" || spot != (api.Spot{Err: api.ErrParse, At: 7}) {
		t.Errorf("Form(package): %q, %v", s, spot)
	}
	if s, err := print.Print(api.Tree{}); s != "" || err != api.ErrTree {
		t.Errorf("Print of no nodes: %q, error %d", s, err)
	}
}

// P12.1: files with and without imports and declarations, and their empty lines.
func TestFile(t *testing.T) {
	forms(t, "package a", "package a\n")
	forms(t, "package abc_9 ;", "package abc_9\n")
	forms(t, "package a;import \"b\"", "package a\n\nimport \"b\"\n")
	forms(t, "package a;import \"b\";import \"c/d\"\n\n\nimport \"\"", "package a\n\nimport \"b\"\nimport \"c/d\"\nimport \"\"\n")
	forms(t, `package a;import "\"\\\n x"`, "package a\n\nimport \"\\\"\\\\\\n x\"\n")
	forms(t, "package a;const c=1", "package a\n\nconst c = 1\n")
	forms(t, "package a;const c=1;const d=2\nvar v int\ntype t struct{}\nfunc f(){}", "package a\n\nconst c = 1\n\nconst d = 2\n\nvar v int\n\ntype t struct {\n}\n\nfunc f() {\n}\n")
	forms(t, "package a;import \"b\"\nvar v int;var w int", "package a\n\nimport \"b\"\n\nvar v int\n\nvar w int\n")
	forms(t, "package a;import \"b\";import \"c\"\nfunc f(){};func g(){}", "package a\n\nimport \"b\"\nimport \"c\"\n\nfunc f() {\n}\n\nfunc g() {\n}\n")
}

// P12.1: const, var and type, each part there and not there.
func TestDeclarations(t *testing.T) {
	for text, want := range map[string]string{
		"const c=0":                   "const c = 0",
		"const c=9223372036854775807": "const c = 9223372036854775807",
		"const c=-1":                  "const c = -1",
		"const c = - 0":               "const c = -0",
		`const c="s"`:                 `const c = "s"`,
		`const c="\n\"\\'"`:           `const c = "\n\"\\'"`,
		"const c=true":                "const c = true",
		"const c=false":               "const c = false",
		"var v int":                   "var v int",
		"var v bool":                  "var v bool",
		"var v string":                "var v string",
		"var v t":                     "var v t",
		"var v  b . t":                "var v b.t",
		"var v int=1":                 "var v int = 1",
		"var v t=x":                   "var v t = x",
		"var v b.t=(f)(x)":            "var v b.t = f(x)",
		"var v int=((a)+b)":           "var v int = a + b",
		"type t struct{}":             "type t struct {\n}",
		"type t struct{x int}":        "type t struct {\n\tx int\n}",
		"type t struct{x int;y t;z b.c;w string;}": "type t struct {\n\tx int\n\ty t\n\tz b.c\n\tw string\n}",
		"type t struct\t{\n\n\nx int // c\n\n}":    "type t struct {\n\tx int\n}",
	} {
		forms(t, "package a\n"+text, "package a\n\n"+want+"\n")
	}
}

// P12.1: functions, each part there and not there, and none, one and several parameters and statements.
func TestFunctions(t *testing.T) {
	for text, want := range map[string]string{
		"func f(){}":          "func f() {\n}",
		"func f()int{}":       "func f() int {\n}",
		"func f()t{}":         "func f() t {\n}",
		"func f()b.t{}":       "func f() b.t {\n}",
		"func f(x int){}":     "func f(x int) {\n}",
		"func f(x b.t)b.t{}":  "func f(x b.t) b.t {\n}",
		"func f(x int,y t){}": "func f(x int, y t) {\n}",
		"func f(\nx int ,\ny b.t,z bool)string{}": "func f(x int, y b.t, z bool) string {\n}",
		"func(r t)m(){}":                 "func (r t) m() {\n}",
		"func(r t)m(x int)bool{}":        "func (r t) m(x int) bool {\n}",
		"func ( r t ) m(x int, y int){}": "func (r t) m(x int, y int) {\n}",
		"func(r t)m()c.d{return}":        "func (r t) m() c.d {\n\treturn\n}",
		"func f(){x}":                    "func f() {\n\tx\n}",
		"func f(){x;y\nz;}":              "func f() {\n\tx\n\ty\n\tz\n}",
	} {
		forms(t, "package a\n"+text, "package a\n\n"+want+"\n")
	}
}

// P12.1: statements, each part there and not there.
func TestStatements(t *testing.T) {
	for text, lines := range map[string][]string{
		"var v int":                              {"var v int"},
		"var v b.t=-x":                           {"var v b.t = -x"},
		"return":                                 {"return"},
		"return x":                               {"return x"},
		"return(x)":                              {"return x"},
		"return(x+y)*z":                          {"return (x + y) * z"},
		"x:=1":                                   {"x := 1"},
		"x:=(y||z)":                              {"x := y || z"},
		"x=1":                                    {"x = 1"},
		"(x)=(1)":                                {"x = 1"},
		"x.y=f()":                                {"x.y = f()"},
		"-x=!y":                                  {"-x = !y"},
		"x+y=z*w":                                {"x + y = z * w"},
		"x":                                      {"x"},
		"(f())":                                  {"f()"},
		"f(x,y).z(1)":                            {"f(x, y).z(1)"},
		`"s"`:                                    {`"s"`},
		"7":                                      {"7"},
		"{}":                                     {"{", "}"},
		"{x}":                                    {"{", "\tx", "}"},
		"{x;y}":                                  {"{", "\tx", "\ty", "}"},
		"{};{}":                                  {"{", "}", "{", "}"},
		"{{{}}}":                                 {"{", "\t{", "\t\t{", "\t\t}", "\t}", "}"},
		"{{x};y}":                                {"{", "\t{", "\t\tx", "\t}", "\ty", "}"},
		"for x{}":                                {"for x {", "}"},
		"for(x<1){x=x+1}":                        {"for x < 1 {", "\tx = x + 1", "}"},
		"for x{for y{for z{}}}":                  {"for x {", "\tfor y {", "\t\tfor z {", "\t\t}", "\t}", "}"},
		"if x{}":                                 {"if x {", "}"},
		"if(x)&&y{z;w}":                          {"if x && y {", "\tz", "\tw", "}"},
		"if x{}else{}":                           {"if x {", "} else {", "}"},
		"if x{y}else{z}":                         {"if x {", "\ty", "} else {", "\tz", "}"},
		"if x{}else if y{}":                      {"if x {", "} else if y {", "}"},
		"if x{}else if y{}else if z{u}else{v;w}": {"if x {", "} else if y {", "} else if z {", "\tu", "} else {", "\tv", "\tw", "}"},
		"if x{}else{if y{}}":                     {"if x {", "} else {", "\tif y {", "\t}", "}"},
		"if x{if y{z}else{w}}else{{}}":           {"if x {", "\tif y {", "\t\tz", "\t} else {", "\t\tw", "\t}", "} else {", "\t{", "\t}", "}"},
		"if x{};if y{};x":                        {"if x {", "}", "if y {", "}", "x"},
		"{if x{for y{return;{z:=1}}}}":           {"{", "\tif x {", "\t\tfor y {", "\t\t\treturn", "\t\t\t{", "\t\t\t\tz := 1", "\t\t\t}", "\t\t}", "\t}", "}"},
	} {
		text, want := in(text, lines...)
		forms(t, text, want)
	}
}

// P12.1, P12.2: expressions, in each place where one stands, and by themselves.
func TestExpressions(t *testing.T) {
	for text, want := range map[string]string{
		"0":                                "0",
		"10":                               "10",
		"9223372036854775807":              "9223372036854775807",
		`""`:                               `""`,
		`"a b"`:                            `"a b"`,
		`"\n"`:                             `"\n"`,
		`"\""`:                             `"\""`,
		`"\\"`:                             `"\\"`,
		`"\\n\n\"//;"`:                     `"\\n\n\"//;"`,
		"true":                             "true",
		"false":                            "false",
		"x":                                "x",
		"_":                                "_",
		"x . y . z":                        "x.y.z",
		"1.x":                              "1.x",
		`"s".x`:                            `"s".x`,
		"f()":                              "f()",
		"f ( x )":                          "f(x)",
		"f(x,y)":                           "f(x, y)",
		"f(x,(y),((z+1)))":                 "f(x, y, z + 1)",
		"f(-x,!y)":                         "f(-x, !y)",
		"f()()":                            "f()()",
		"f(1)(2,3)(\"s\")":                 "f(1)(2, 3)(\"s\")",
		"f.g(x.y).h()":                     "f.g(x.y).h()",
		"1(2)":                             "1(2)",
		"true(x)":                          "true(x)",
		"f(g(h(x),y),z)":                   "f(g(h(x), y), z)",
		"-x":                               "-x",
		"- x":                              "-x",
		"!x":                               "!x",
		"- - x":                            "--x",
		"-(-(x))":                          "--x",
		"!!x":                              "!!x",
		"-!-x":                             "-!-x",
		"-(x)":                             "-x",
		"-(1)":                             "-1",
		"-f(x)":                            "-f(x)",
		"-(f.g)":                           "-f.g",
		"-(a+b)":                           "-(a + b)",
		"!(a||b)":                          "!(a || b)",
		"-(a*b)":                           "-(a * b)",
		"!(a==b)":                          "!(a == b)",
		"-(-(a+b))":                        "--(a + b)",
		"-a*b":                             "-a * b",
		"(-a)*b":                           "-a * b",
		"a*-b":                             "a * -b",
		"a*(-b)":                           "a * -b",
		"a- -b":                            "a - -b",
		"a-(-b)":                           "a - -b",
		"a- - -b":                          "a - --b",
		"!a==!b":                           "!a == !b",
		"(-a).b":                           "(-a).b",
		"(!a).b":                           "(!a).b",
		"(a+b).c":                          "(a + b).c",
		"(a*b).c":                          "(a * b).c",
		"((a)).b":                          "a.b",
		"(a.b).c":                          "a.b.c",
		"(f()).c":                          "f().c",
		"-(a.b)":                           "-a.b",
		"(-a)()":                           "(-a)()",
		"(a||b)(c)":                        "(a || b)(c)",
		"(a*b)(c,d)":                       "(a * b)(c, d)",
		"((f))(x)":                         "f(x)",
		"(f.g)(x)":                         "f.g(x)",
		"(f(x))(y)":                        "f(x)(y)",
		"(-a)(b).c":                        "(-a)(b).c",
		"a-b-c":                            "a - b - c",
		"(a-b)-c":                          "a - b - c",
		"a-(b-c)":                          "a - (b - c)",
		"a+(b+c)":                          "a + (b + c)",
		"a*(b*c)":                          "a * (b * c)",
		"a||(b||c)":                        "a || (b || c)",
		"(a||b)||c":                        "a || b || c",
		"a&&(b&&c)":                        "a && (b && c)",
		"(a==b)==c":                        "(a == b) == c",
		"a==(b==c)":                        "a == (b == c)",
		"(a<b)>=(c!=d)":                    "(a < b) >= (c != d)",
		"(a+b)*c":                          "(a + b) * c",
		"a*(b+c)":                          "a * (b + c)",
		"(a*b)+(c/d)":                      "a * b + c / d",
		"(a&&b)||(c&&d)":                   "a && b || c && d",
		"(a||b)&&(c||d)":                   "(a || b) && (c || d)",
		"(a+b)<(c-d)":                      "a + b < c - d",
		"(a<b)+(c<d)":                      "(a < b) + (c < d)",
		"a||b&&c==d+e*-f":                  "a || b && c == d + e * -f",
		"((((a||b)&&c)==d)+e)*-f":          "((((a || b) && c) == d) + e) * -f",
		"f((a+b))":                         "f(a + b)",
		"((a+b))":                          "a + b",
		"(f((((x)))+((y))))":               "f(x + y)",
		"-(a+b)*f(1,\"\\n\")":              "-(a + b) * f(1, \"\\n\")",
		"a%b/c*d":                          "a % b / c * d",
		"a<=b&&c>=d||e!=f&&g>h&&i<j||k==l": "a <= b && c >= d || e != f && g > h && i < j || k == l",
	} {
		x := mustTree(t, "package a;var v int="+text)
		if s, err := print.Node(x, 3); s != want || err != api.OK {
			t.Errorf("Node of %s: %s, error %d, want %s", text, s, err, want)
		}
		forms(t, "package a;var v int="+text, "package a\n\nvar v int = "+want+"\n")
		whole, lines := in("var v int="+text+";v:="+text+";"+text+"="+text+";"+text+";return "+text+";if "+text+"{};for "+text+"{}",
			"var v int = "+want, "v := "+want, want+" = "+want, want, "return "+want, "if "+want+" {", "}", "for "+want+" {", "}")
		forms(t, whole, lines)
	}
}

// row is the number of a sign's row.
func row(sign string) int {
	return slices.IndexFunc(signRows, func(signs []string) bool { return slices.Contains(signs, sign) })
}

// P12.1: brackets round signs of each row beside signs of each other one and of the same one.
func TestRows(t *testing.T) {
	signs := slices.Concat(signRows...)
	if len(signs) != 13 {
		t.Fatal(signs)
	}
	for _, outer := range signs {
		for _, inner := range signs {
			left := "(a " + inner + " b) " + outer + " c"
			if row(inner) > row(outer) || row(inner) == row(outer) && row(inner) != 2 {
				left = "a " + inner + " b " + outer + " c"
			}
			forms(t, "package a;var v int=(a"+inner+"b)"+outer+"c", "package a\n\nvar v int = "+left+"\n")
			right := "a " + outer + " (b " + inner + " c)"
			if row(inner) > row(outer) {
				right = "a " + outer + " b " + inner + " c"
			}
			forms(t, "package a;var v int=a"+outer+"(b"+inner+"c)", "package a\n\nvar v int = "+right+"\n")
		}
		for _, sign := range []string{"-", "!"} {
			forms(t, "package a;var v int="+sign+"(a"+outer+"b)", "package a\n\nvar v int = "+sign+"(a "+outer+" b)\n")
			forms(t, "package a;var v int=("+sign+"a)"+outer+"("+sign+"b)", "package a\n\nvar v int = "+sign+"a "+outer+" "+sign+"b\n")
		}
		forms(t, "package a;var v int=(a"+outer+"b).c", "package a\n\nvar v int = (a "+outer+" b).c\n")
		forms(t, "package a;var v int=(a"+outer+"b)(c"+outer+"d)", "package a\n\nvar v int = (a "+outer+" b)(c "+outer+" d)\n")
		forms(t, "package a;var v int=(a.b)"+outer+"(f())", "package a\n\nvar v int = a.b "+outer+" f()\n")
	}
}

// P12.2: Node of each Kind, by hand: the text, or that it is none.
func TestNodeKinds(t *testing.T) {
	const none = "none"
	x := mustTree(t, "package p;import \"q\";const c=-1;type s struct{g q.r};func(w s)m(x bool)s{{return};if(y){}else{};for(!z){};k:=(\"\\n\");u.v=((1+2)*3);h((true),4)}")
	want := []string{
		none, none, none, "-1", "1", none, none, "q.r", "q",
		none, none, "s", none, "bool", "s", none,
		none, none,
		none, "y", none, none,
		none, "!z", "z", none,
		none, `"\n"`,
		none, "u.v", "u", "(1 + 2) * 3", "1 + 2", "1", "2", "3",
		none, "h(true, 4)", "h", "true", "4",
	}
	if len(want) != len(x.Nodes) {
		t.Fatalf("%d nodes: %v", len(x.Nodes), x)
	}
	checkTree(t, x)
	seen := map[int]bool{}
	for i, n := range x.Nodes {
		seen[n.Kind] = true
		s, err := print.Node(x, i)
		if want[i] == none && (s != "" || err != api.ErrArg) || want[i] != none && (s != want[i] || err != api.OK) {
			t.Errorf("Node %d, of Kind %d: %q, error %d, want %q", i, n.Kind, s, err, want[i])
		}
	}
	y := mustTree(t, "package p;var v int;func f(){x}")
	for i, want := range []string{none, none, "int", none, none, none, "x"} {
		seen[y.Nodes[i].Kind] = true
		s, err := print.Node(y, i)
		if want == none && (s != "" || err != api.ErrArg) || want != none && (s != want || err != api.OK) {
			t.Errorf("Node %d, of Kind %d: %q, error %d, want %q", i, y.Nodes[i].Kind, s, err, want)
		}
	}
	for kind := api.NodeFile; kind <= api.NodeBinary; kind++ {
		if !seen[kind] {
			t.Errorf("no node of Kind %d", kind)
		}
	}
}

// P12.2: numbers that are no node's.
func TestNodeNumbers(t *testing.T) {
	x := mustTree(t, "package a;var v int=1")
	for _, i := range []int{-1, -3, 4, 5, 1 << 32, 1<<32 + 3, -1<<32 + 3, math.MinInt, math.MaxInt} {
		if s, err := print.Node(x, i); s != "" || err != api.ErrArg {
			t.Errorf("Node(%d): %q, error %d", i, s, err)
		}
	}
	for _, y := range []api.Tree{{}, {Nodes: []api.Node{{}}}, {Nodes: x.Nodes[:3]}, {Nodes: x.Nodes[1:]}} {
		for _, i := range []int{-1, 0, 2, 3, 4, math.MinInt, math.MaxInt} {
			if s, err := print.Node(y, i); s != "" || err != api.ErrTree {
				t.Errorf("Node(%v, %d): %q, error %d", y, i, s, err)
			}
		}
	}
}

// P12.1, P12.2: nodes of which one thing is changed, and which are a tree, or none.
func TestOneChange(t *testing.T) {
	texts := []string{"", "a", "x9", "1", "-", "!", "||", "<", "+", "*", ";", "(", "a b", "\n", "\t", "\x7f", "\x80", "if", "int", "bool", "true", "a.b", `"`, `\`, "=", strings.Repeat("a", 24), strings.Repeat("a", 25), strings.Repeat("a", 4094), strings.Repeat("a", 4095)}
	count := map[api.Errno]int{}
	check := func(x api.Tree) {
		t.Helper()
		_, err := checkTree(t, x)
		count[err]++
	}
	for _, s := range files {
		x := mustTree(t, s)
		check(x)
		for i := range x.Nodes {
			for kind := -1; kind <= 29; kind++ {
				check(changed(x, i, func(n *api.Node) { n.Kind = kind }))
			}
			for _, s := range texts {
				check(changed(x, i, func(n *api.Node) { n.Text = s }))
			}
			for _, num := range []int64{0, 1, -1, math.MaxInt64, math.MinInt64} {
				check(changed(x, i, func(n *api.Node) { n.Num = num }))
			}
			for k := -1; k <= len(x.Nodes); k++ {
				check(changed(x, i, func(n *api.Node) { n.Kids = append(n.Kids, k) }))
			}
			for j := range x.Nodes[i].Kids {
				check(changed(x, i, func(n *api.Node) { n.Kids = slices.Delete(n.Kids, j, j+1) }))
			}
		}
	}
	if count[api.OK] < 1000 || count[api.ErrTree] < 5000 || count[api.ErrLong] < 5 || len(count) != 3 {
		t.Errorf("errors: %v", count)
	}
}

// P12.1, P12.2: nodes that are none, said by hand.
func TestNoTree(t *testing.T) {
	deep := "package a;var v int=" + strings.Repeat("-", 21) + "x"
	x := mustTree(t, deep)
	checkTree(t, x)
	x.Nodes = append(x.Nodes, x.Nodes[len(x.Nodes)-1])
	last := &x.Nodes[len(x.Nodes)-2]
	last.Kind, last.Text, last.Kids = api.NodeUnary, "-", []int{len(x.Nodes) - 1}
	many := api.Tree{Nodes: []api.Node{{Kind: api.NodeFile, Text: "a"}}}
	for i := range 2048 {
		many.Nodes[0].Kids = append(many.Nodes[0].Kids, i+1)
		many.Nodes = append(many.Nodes, api.Node{Kind: api.NodeImport})
	}
	for _, y := range []api.Tree{
		{},
		{Nodes: []api.Node{}},
		{Nodes: []api.Node{{}}},
		{Nodes: []api.Node{{Kind: api.NodeFile}}},
		{Nodes: []api.Node{{Kind: api.NodeFile, Text: "if"}}},
		{Nodes: []api.Node{{Kind: api.NodeFile, Text: "a", Kids: []int{0}}}},
		{Nodes: []api.Node{{Kind: api.NodeFile, Text: "a", Kids: []int{1}}}},
		{Nodes: []api.Node{{Kind: api.NodeName, Text: "a"}}},
		{Nodes: []api.Node{{Kind: api.NodeFile, Text: "a", Kids: []int{1}}, {Kind: api.NodeImport, Text: "\t"}}},
		x,
		many,
	} {
		for _, i := range []int{0, 1, -1} {
			if s, err := print.Node(y, i); s != "" || err != api.ErrTree {
				t.Errorf("Node(%v, %d): %q, error %d", y, i, s, err)
			}
		}
		if s, err := print.Print(y); s != "" || err != api.ErrTree {
			t.Errorf("Print(%v): %q, error %d", y, s, err)
		}
	}
}

// heap is a file of so many imports without a text, and so many variables.
func heap(imports, vars int) api.Tree {
	x := api.Tree{Nodes: []api.Node{{Kind: api.NodeFile, Text: "a"}}}
	for range imports {
		x.Nodes[0].Kids = append(x.Nodes[0].Kids, len(x.Nodes))
		x.Nodes = append(x.Nodes, api.Node{Kind: api.NodeImport})
	}
	for range vars {
		x.Nodes[0].Kids = append(x.Nodes[0].Kids, len(x.Nodes))
		x.Nodes = append(x.Nodes, api.Node{Kind: api.NodeVar, Text: "v", Kids: []int{len(x.Nodes) + 1}}, api.Node{Kind: api.NodeBasic, Text: "int"})
	}
	return x
}

// P12.1, P12.2: trees of MaxTokens tokens, of one less and of one more.
func TestManyTokens(t *testing.T) {
	for _, q := range []struct {
		imports, vars, tokens int
		err                   api.Errno
	}{
		{340, 0, 1023, api.OK},
		{339, 1, 1024, api.OK},
		{338, 2, 1025, api.ErrLong},
		{341, 0, 1026, api.ErrLong},
		{0, 256, 1027, api.ErrLong},
		{2047, 0, 6144, api.ErrLong},
	} {
		if n := 3 + 3*q.imports + 4*q.vars; n != q.tokens {
			t.Fatalf("%d tokens, want %d", n, q.tokens)
		}
		x := heap(q.imports, q.vars)
		want := ""
		if q.err == api.OK {
			want = "package a\n\n" + strings.Repeat("import \"\"\n", q.imports) + strings.Repeat("\nvar v int\n", q.vars)
		}
		if s, err := print.Print(x); s != want || err != q.err {
			t.Errorf("Print of %d tokens: %q, error %d", q.tokens, s, err)
		}
		last := len(x.Nodes) - 1
		s, err := print.Node(x, last)
		switch {
		case q.err != api.OK:
			want, q.err = "", api.ErrLong
		case q.vars > 0:
			want, q.err = "int", api.OK
		default:
			want, q.err = "", api.ErrArg
		}
		if s != want || err != q.err {
			t.Errorf("Node of %d tokens: %q, error %d", q.tokens, s, err)
		}
	}
}

// P12.1: a text of MaxText bytes, of one less and of one more.
func TestLongText(t *testing.T) {
	const ahead, behind = "package a\n\nconst c = \"", "\"\n"
	for _, n := range []int{4095, 4096, 4097, 4098} {
		for fill, pair := range map[string]string{"xx": "xx", "\n": `\n`, "\"": `\"`, "\\": `\\`} {
			room := n - len(ahead+behind)
			value := strings.Repeat(fill, room/2) + strings.Repeat("x", room%2)
			token := strings.Repeat(pair, room/2) + strings.Repeat("x", room%2)
			x := api.Tree{Nodes: []api.Node{
				{Kind: api.NodeFile, Text: "a", Kids: []int{1}},
				{Kind: api.NodeConst, Text: "c", Kids: []int{2}},
				{Kind: api.NodeText, Text: value},
			}}
			want, wantErr := ahead+token+behind, api.OK
			if n > 4096 {
				want, wantErr = "", api.ErrLong
			}
			if s, err := print.Print(x); s != want || err != wantErr {
				t.Errorf("Print of %d bytes: %d bytes, error %d", n, len(s), err)
			}
			checkTree(t, x)
			if s, err := print.Node(x, 2); s != `"`+token+`"` || err != api.OK {
				t.Errorf("Node of %d bytes: %q, error %d", n, s, err)
			}
		}
	}
}

// P12.2: a node's text may be longer than MaxText.
func TestLongNode(t *testing.T) {
	part := strings.Repeat("x", 4094)
	x := api.Tree{Nodes: []api.Node{
		{Kind: api.NodeFile, Text: "a", Kids: []int{1}},
		{Kind: api.NodeVar, Text: "v", Kids: []int{2, 3}},
		{Kind: api.NodeBasic, Text: "int"},
		{Kind: api.NodeCall, Kids: []int{4, 5, 6, 7}},
		{Kind: api.NodeName, Text: "f"},
		{Kind: api.NodeText, Text: part},
		{Kind: api.NodeText, Text: ""},
		{Kind: api.NodeText, Text: part},
	}}
	if s, err := print.Print(x); s != "" || err != api.ErrLong {
		t.Errorf("Print: %d bytes, error %d", len(s), err)
	}
	want := `f("` + part + `", "", "` + part + `")`
	if s, err := print.Node(x, 3); s != want || err != api.OK {
		t.Errorf("Node: %d bytes, error %d", len(s), err)
	}
	checkTree(t, x)
	x.Nodes[3].Kids = x.Nodes[3].Kids[:1]
	x.Nodes = x.Nodes[:5]
	for i := range 500 {
		x.Nodes[3].Kids = append(x.Nodes[3].Kids, 5+i)
		x.Nodes = append(x.Nodes, api.Node{Kind: api.NodeName, Text: "abcdefghijklmnopqrstuvwx"})
	}
	want = "f(" + strings.Repeat("abcdefghijklmnopqrstuvwx, ", 499) + "abcdefghijklmnopqrstuvwx)"
	if s, err := print.Node(x, 3); s != want || err != api.OK {
		t.Errorf("Node: %d bytes, error %d", len(s), err)
	}
	if s, err := print.Node(x, 1); s != "" || err != api.ErrArg {
		t.Errorf("Node of a var: %d bytes, error %d", len(s), err)
	}
}

// P12.3: texts that are wrong: which error, and where.
func TestWrongTexts(t *testing.T) {
	for _, q := range []struct {
		text string
		err  api.Errno
		at   int
	}{
		{"", api.ErrParse, 0},
		{" \n// c\n", api.ErrParse, 0},
		{"package", api.ErrParse, 7},
		{"package if", api.ErrParse, 8},
		{"package a; func", api.ErrParse, 15},
		{"package a; var x int = if", api.ErrParse, 23},
		{"package a; var x int = (1", api.ErrParse, 25},
		{"package a; var x int = 1)", api.ErrParse, 24},
		{"package a; const c = (1)", api.ErrParse, 21},
		{"package a\nx", api.ErrParse, 10},
		{"package a # b", api.ErrLex, 10},
		{"package a; const c = \"b", api.ErrLex, 21},
		{"package a; const c = 007", api.ErrNumber, 21},
		{"package a; const c = 1a", api.ErrNumber, 21},
		{"package a; var abcdefghijklmnopqrstuvwxy int", api.ErrLong, 15},
		{"package a" + strings.Repeat("\n", 4088), api.ErrLong, 0},
		{"package a" + strings.Repeat(";", 1023), api.ErrLong, 1031},
		{"package a;var x int=" + strings.Repeat("-", 22) + "x", api.ErrLong, 0},
		{"\x80", api.ErrLex, 0},
		{"package a;;", api.ErrParse, 10},
	} {
		s, spot := print.Form(q.text)
		if s != "" || spot != (api.Spot{Err: q.err, At: q.at}) {
			t.Errorf("Form(%.60q): %q, %v, want %d at %d", q.text, s, spot, q.err, q.at)
		}
		if print.Formed(q.text) {
			t.Errorf("Formed(%.60q): true", q.text)
		}
		checkText(t, q.text)
	}
}

// P12.3: texts that are right, and whose form is too long: in bytes, or in tokens.
func TestLongForm(t *testing.T) {
	// Each x is a line of 20 bytes, 18 of them tabulators.
	const deep = 18
	text := func(n int, name string) string {
		return "package a;func f()" + strings.Repeat("{", deep) + strings.Repeat("x;", n) + name + strings.Repeat("}", deep)
	}
	base := len("package a\n\nfunc f() {\n}\n") + (deep-1)*deep + 4*(deep-1)
	n := (4096-base)/20 - 1
	// What is left is one line more: tabulators, the name, a line feed.
	rest := 4096 - base - 20*n - deep - 1
	for more := -1; more <= 2; more++ {
		s := text(n, strings.Repeat("y", rest+more))
		got, spot := checkText(t, s)
		switch {
		case more <= 0 && (spot != (api.Spot{}) || len(got) != 4096+more):
			t.Errorf("Form(%q): %d bytes, %v, want %d", s, len(got), spot, 4096+more)
		case more > 0 && (spot != (api.Spot{Err: api.ErrLong}) || got != ""):
			t.Errorf("Form(%q): %d bytes, %v, want ErrLong at 0", s, len(got), spot)
		}
		if print.Formed(s) {
			t.Errorf("Formed(%q): true", s)
		}
	}
	// Each function has 8 tokens, and one more in its form, where an end stands behind the x.
	for n, want := range map[int]api.Errno{112: api.OK, 113: api.OK, 114: api.ErrLong, 127: api.ErrLong} {
		s := "package a;" + strings.Repeat("func f(){x};", n)
		got, spot := checkText(t, s)
		if spot != (api.Spot{Err: want}) || (got == "") != (want != api.OK) {
			t.Errorf("Form of %d functions: %d bytes, %v", n, len(got), spot)
		}
	}
}

// P12.3: texts that are not formed, and differ from one that is in little.
func TestNotFormed(t *testing.T) {
	right := []string{
		"package a\n",
		"package a\n\nimport \"b\"\nimport \"c\"\n\nconst c = 1\n\nvar v int\n",
		"package a\n\ntype t struct {\n}\n\ntype u struct {\n\tx int\n}\n",
		"package a\n\nfunc (r t) m(x int, y b.c) int {\n\tif x {\n\t\treturn -x\n\t} else if y {\n\t} else {\n\t\t{\n\t\t}\n\t}\n}\n",
		"package a\n\nvar v int = a * (b + c)\n",
	}
	for _, s := range right {
		if !print.Formed(s) {
			t.Errorf("Formed(%q): false", s)
		}
	}
	for _, s := range []string{
		"", "\n", "package a", "package a;", "package a\n\n", "\npackage a\n", " package a\n", "package  a\n", "package\ta\n", "package a \n", "package a\r\n", "package a;\n", "package a // c\n", "// c\npackage a\n",
		"package a\nimport \"b\"\n", "package a\n\nimport \"b\"", "package a\n\nimport \"b\"\n\nimport \"c\"\n", "package a\n\n\nimport \"b\"\n", "package a\n\nimport \"b\"\nconst c = 1\n", "package a\n\nimport \"b\"\n\nconst c = 1\nvar v int\n",
		"package a\n\nconst c=1\n", "package a\n\nconst c = - 1\n", "package a\n\nconst c = 1;\n", "package a\n\n\tconst c = 1\n", "package a\n\nconst c = 1\n\n",
		"package a\n\ntype t struct {}\n", "package a\n\ntype t struct{\n}\n", "package a\n\ntype t struct {\n\n}\n", "package a\n\ntype t struct {\nx int\n}\n", "package a\n\ntype t struct {\n x int\n}\n", "package a\n\ntype t struct {\n\tx int\n\n\ty int\n}\n", "package a\n\ntype t struct {\n\tx int;\n}\n", "package a\n\ntype t struct {\n\tx int }\n",
		"package a\n\nfunc f() {}\n", "package a\n\nfunc f () {\n}\n", "package a\n\nfunc f(){\n}\n", "package a\n\nfunc f( x int) {\n}\n", "package a\n\nfunc f(x int,y int) {\n}\n", "package a\n\nfunc (r t)m() {\n}\n", "package a\n\nfunc(r t) m() {\n}\n",
		"package a\n\nfunc f() {\n\tif x {\n\t}else {\n\t}\n}\n", "package a\n\nfunc f() {\n\tif x {\n\t} else{\n\t}\n}\n", "package a\n\nfunc f() {\n\tx;y\n}\n", "package a\n\nfunc f() {\n\t\tx\n}\n", "package a\n\nfunc f() {\n\treturn \n}\n", "package a\n\nfunc f() {\n\tx\n\t}\n",
		"package a\n\nvar v int = (1)\n", "package a\n\nvar v int = (a * b) + c\n", "package a\n\nvar v int = a+b\n", "package a\n\nvar v int = f(a,b)\n", "package a\n\nvar v int = f( a)\n", "package a\n\nvar v int = f (a)\n", "package a\n\nvar v int = - a\n", "package a\n\nvar v int = a. b\n", "package a\n\nvar v b .c\n",
		"package a\n\nvar v int = if\n", "package if\n", "package a\n#\n", "package a\n\nconst c = 00\n",
	} {
		if print.Formed(s) {
			t.Errorf("Formed(%q): true", s)
		}
		checkText(t, s)
	}
}

// P12.3: a formed text of which one byte is another one, is left out, or is put in.
func TestOneByte(t *testing.T) {
	formed, other := 0, 0
	check := func(s string) {
		t.Helper()
		checkText(t, s)
		if print.Formed(s) {
			formed++
		} else {
			other++
		}
	}
	for _, s := range files {
		s, spot := print.Form(s)
		if spot != (api.Spot{}) {
			t.Fatal(spot)
		}
		check(s)
		for i := range len(s) + 1 {
			for _, c := range " \n\t\r;(){}a1,.=+-*/\"\\\x00" {
				check(s[:i] + string(c) + s[i:])
				if i < len(s) {
					check(s[:i] + string(c) + s[i+1:])
				}
			}
			if i < len(s) {
				check(s[:i] + s[i+1:])
				check(s[:i])
			}
		}
	}
	if formed < 300 || other < 10000 {
		t.Errorf("%d formed, %d not", formed, other)
	}
}

// P12.1, P12.2, P12.4: trees by chance.
func TestChance(t *testing.T) {
	r := rand.New(rand.NewSource(12))
	count := map[api.Errno]int{}
	seen := map[int]bool{}
	for range 500 {
		x := chance(r)
		if err := parse.Check(x); err != api.OK {
			t.Fatalf("no tree: %v", x)
		}
		for _, n := range x.Nodes {
			seen[n.Kind] = true
		}
		_, err := checkTree(t, x)
		count[err]++
	}
	if count[api.OK] < 400 || len(seen) != api.NodeBinary {
		t.Errorf("errors %v, Kinds %v", count, seen)
	}
}

// P12.3, P12.4: Form of a formed text whose blanks, empty lines, comments, brackets and semicolons are others is that text.
func TestLoosened(t *testing.T) {
	r := rand.New(rand.NewSource(34))
	right := 0
	for range 3000 {
		s, err := print.Print(chance(r))
		if err != api.OK {
			continue
		}
		loose := loosen(t, r, bracket(t, r, s))
		got, spot := checkText(t, loose)
		if _, where := lex.Lex(loose); where.Err == api.ErrLong {
			continue
		}
		if got != s || spot != (api.Spot{}) {
			t.Fatalf("Form(%q): %q, %v, want %q", loose, got, spot, s)
		}
		right++
	}
	if right < 2000 {
		t.Errorf("%d right", right)
	}
}

// P12.3: comments are gone, wherever they stood.
func TestComments(t *testing.T) {
	forms(t, "// a\npackage a // b\n// c\n\n// d\nimport \"//\" // e\n// f\nfunc f( // g\nx int, // h\ny int) int { // i\n// j\nreturn x + // k\ny // l\n// m\n} // n", "package a\n\nimport \"//\"\n\nfunc f(x int, y int) int {\n\treturn x + y\n}\n")
	forms(t, "//\npackage a//", "package a\n")
}

// R3, R5: what is handed in is not changed, the room behind a list's end neither, and not kept; one answer is like the other.
func TestNothingKept(t *testing.T) {
	for _, s := range files {
		x := mustTree(t, s)
		for i := range x.Nodes {
			room := append(slices.Clone(x.Nodes[i].Kids), -7, -8)
			x.Nodes[i].Kids = room[:len(room)-2]
		}
		x.Nodes = append(slices.Clone(x.Nodes), api.Node{Kind: -9})[:len(x.Nodes)]
		was := copied(x)
		first, err := print.Print(x)
		if err != api.OK {
			t.Fatal(err)
		}
		var texts []string
		for i := range x.Nodes {
			s, _ := print.Node(x, i)
			texts = append(texts, s)
		}
		for i, n := range x.Nodes {
			room := n.Kids[:len(n.Kids)+2]
			if m := was.Nodes[i]; n.Kind != m.Kind || n.Text != m.Text || n.Num != m.Num || !slices.Equal(n.Kids, m.Kids) || n.At != m.At || n.From != m.From || n.To != m.To || room[len(n.Kids)] != -7 || room[len(n.Kids)+1] != -8 {
				t.Errorf("%q: node %d is changed: %v", s, i, n)
			}
		}
		if x.Nodes[:len(x.Nodes)+1][len(x.Nodes)].Kind != -9 {
			t.Errorf("%q: the room behind the nodes is changed", s)
		}
		other := copied(x)
		clear(x.Nodes)
		print.Print(x)
		print.Form("package b;var z int=9")
		if again, err := print.Print(other); again != first || err != api.OK {
			t.Errorf("%q: %q, then %q, error %d", s, first, again, err)
		}
		for i, s := range texts {
			if again, _ := print.Node(other, i); again != s {
				t.Errorf("node %d: %q, then %q", i, s, again)
			}
		}
	}
}

// P12.1: places are not asked.
func TestPlacesNotAsked(t *testing.T) {
	for _, s := range files {
		x := mustTree(t, s)
		want, _ := print.Print(x)
		for _, n := range []int{0, -1, math.MinInt, math.MaxInt} {
			y := copied(x)
			for i := range y.Nodes {
				y.Nodes[i].At, y.Nodes[i].From, y.Nodes[i].To = n, n, n
			}
			if got, err := checkTree(t, y); got != want || err != api.OK {
				t.Errorf("%q: %q, error %d, want %q", s, got, err, want)
			}
		}
	}
}
