package print_test

import (
	"math/rand"
	"slices"
	"strings"
	"testing"

	"shipwright/api"
	"shipwright/lex"
	"shipwright/parse"
	"shipwright/print"
)

// files are texts that have each way of each rule in them.
var files = []string{
	"package a",
	"package a;import \"b\";import \"c/d\";",
	"package a\nconst c = 1\nconst d = -2\nconst e = \"s\\n\"\nconst f = true\nconst g = false\n",
	"package a\nimport \"b\"\nvar x int\nvar y bool = true\nvar z string = \"\"\nvar u t\nvar v b.t = w\n",
	"package a\ntype t struct {}\ntype u struct { x int }\ntype v struct {\n\tx int\n\ty b.c\n}\n",
	"package a\nfunc f() {}\nfunc g(x int) int { return x }\n",
	"package a\nfunc (s t) h(x t, y b.u, z bool) b.t {\n\treturn\n}\n",
	"package a; func f() { if a { b } else { c }; if a { } else if b { c } else { }; if a { } }",
	"package a\nfunc f() {\n\tfor x < 1 {\n\t\tx = x + 1\n\t}\n\t{\n\t\tvar y int = 1\n\t\tvar v bool\n\t\tz := y\n\t}\n\t{}\n}\n",
	"package a\nfunc f() {\n\tf()\n\t(a).b = (c)\n\treturn a.b\n\treturn 1; }\n",
	"package a\nvar x int = -(a + b) * !c.d(1, \"s\")(e)(f.g, -1)()\n",
	"package a\nvar x bool = a || b && c == d - e % f / g * 2 + h && !(i < j) || true\n",
	"package a\nvar x bool = ((a)).b((c), ((d))) <= (e - (f - g)) - (-h)\n",
	"package a\nvar x int = (f)(1)(2).g.h(false, \"\")\n",
}

// signRows are the signs between two expressions, the lowest row first.
var signRows = [][]string{{"||"}, {"&&"}, {"==", "!=", "<", "<=", ">", ">="}, {"+", "-"}, {"*", "/", "%"}}

// mustTree is the tree of a text.
func mustTree(t *testing.T, s string) api.Tree {
	t.Helper()
	x, spot := parse.Text(s)
	if spot != (api.Spot{}) {
		t.Fatalf("Text(%q): %v", s, spot)
	}
	return x
}

// copied is a tree that shares nothing with x.
func copied(x api.Tree) api.Tree {
	nodes := slices.Clone(x.Nodes)
	for i := range nodes {
		nodes[i].Kids = slices.Clone(nodes[i].Kids)
	}
	return api.Tree{Nodes: nodes}
}

// changed is a copy of a tree, a node of it changed.
func changed(x api.Tree, i int, change func(n *api.Node)) api.Tree {
	y := copied(x)
	change(&y.Nodes[i])
	return y
}

// checkTree holds Print and Node of nodes against what they have to tell, and what follows of it (P12.4).
func checkTree(t *testing.T, x api.Tree) (string, api.Errno) {
	t.Helper()
	s, err := print.Print(x)
	want, wantErr := wantPrint(x)
	if s != want || err != wantErr {
		t.Fatalf("Print(%v): %q, error %d, want %q, %d", x, s, err, want, wantErr)
	}
	for _, i := range numbers(x, err) {
		node, err := print.Node(x, i)
		want, wantErr := wantNode(x, i)
		if node != want || err != wantErr {
			t.Fatalf("Node(%v, %d): %q, error %d, want %q, %d", x, i, node, err, want, wantErr)
		}
	}
	if err == api.OK {
		if again, spot := parse.Text(s); spot != (api.Spot{}) || !parse.Same(again, x) {
			t.Fatalf("Text of Print(%v), %q: %v, %v", x, s, again, spot)
		}
		still(t, s)
	}
	return s, err
}

// numbers are those of all nodes, and some beyond; of what is no tree, of which all are the same, these are few.
func numbers(x api.Tree, err api.Errno) []int {
	list := []int{-1, 0, len(x.Nodes) - 1, len(x.Nodes)}
	if err == api.ErrTree {
		return list
	}
	for i := range x.Nodes {
		list = append(list, i)
	}
	return list
}

// still is P12.4: a text is formed, and Form of it is it.
func still(t *testing.T, s string) {
	t.Helper()
	if !print.Formed(s) {
		t.Fatalf("Formed(%q): false", s)
	}
	if again, spot := print.Form(s); again != s || spot != (api.Spot{}) {
		t.Fatalf("Form(%q): %q, %v", s, again, spot)
	}
}

// checkText holds Form and Formed of a text against what they have to tell, and what follows of it (P12.4).
func checkText(t *testing.T, text string) (string, api.Spot) {
	t.Helper()
	s, spot := print.Form(text)
	want, wantSpot := wantForm(text)
	if s != want || spot != wantSpot {
		t.Fatalf("Form(%q): %q, %v, want %q, %v", text, s, spot, want, wantSpot)
	}
	if ok := print.Formed(text); ok != wantFormed(text) {
		t.Fatalf("Formed(%q): %v", text, ok)
	}
	if spot.Err == api.OK {
		still(t, s)
		if was, is := bones(t, text), bones(t, s); !slices.Equal(was, is) {
			t.Fatalf("Form(%q): %q: words and signs are %q, were %q", text, s, is, was)
		}
	}
	return s, spot
}

// bones are the words and signs of a text but for semicolons and brackets.
func bones(t *testing.T, text string) []string {
	t.Helper()
	l, spot := lex.Lex(text)
	if spot != (api.Spot{}) {
		t.Fatalf("Lex(%q): %v", text, spot)
	}
	var list []string
	for _, one := range l {
		if one.Kind != api.TokEnd && one.Text != "(" && one.Text != ")" {
			list = append(list, one.Text)
		}
	}
	return list
}

// maker makes a tree by chance.
type maker struct {
	*rand.Rand
	nodes []api.Node
}

// add puts a node, and beneath it what the functions put.
func (m *maker) add(kind int, text string, num int64, kids ...func()) {
	i := len(m.nodes)
	m.nodes = append(m.nodes, api.Node{Kind: kind, Text: text, Num: num, At: m.Intn(9) - 4, From: m.Intn(9), To: m.Intn(9)})
	for _, kid := range kids {
		m.nodes[i].Kids = append(m.nodes[i].Kids, len(m.nodes))
		kid()
	}
}

// pick is one of several.
func pick[T any](m *maker, list ...T) T { return list[m.Intn(len(list))] }

func (m *maker) name() string {
	return pick(m, "a", "b", "x", "f", "main", "println", "_", "Int", "elsewhere", "i", "abcdefghijklmnopqrstuvwx")
}

func (m *maker) text() string {
	return pick(m, "", "a", "a/b", "\n\"\\", "if x", "// no", "a;b", "\\n", "(", ")")
}

func (m *maker) num() int64 { return pick[int64](m, 0, 1, 7, 10, 9223372036854775807) }

// many is up to n times the same.
func (m *maker) many(n int, one func()) []func() {
	return slices.Repeat([]func(){one}, m.Intn(n+1))
}

// typ puts a type.
func (m *maker) typ() {
	switch m.Intn(3) {
	case 0:
		m.add(api.NodeBasic, pick(m, "int", "bool", "string"), 0)
	case 1:
		m.add(api.NodeNamed, m.name(), 0)
	default:
		m.add(api.NodeFar, m.name(), 0, func() { m.add(api.NodeName, m.name(), 0) })
	}
}

// leaf puts an expression of one token.
func (m *maker) leaf() {
	switch m.Intn(4) {
	case 0:
		m.add(api.NodeInt, "", m.num())
	case 1:
		m.add(api.NodeText, m.text(), 0)
	case 2:
		m.add(api.NodeBool, pick(m, "true", "false"), 0)
	default:
		m.add(api.NodeName, m.name(), 0)
	}
}

// expr puts an expression, at most so deep.
func (m *maker) expr(left int) {
	kid := func() { m.expr(left - 1) }
	if left <= 1 || len(m.nodes) > 150 {
		m.leaf()
		return
	}
	switch m.Intn(8) {
	case 0:
		m.leaf()
	case 1:
		m.add(api.NodeDot, m.name(), 0, kid)
	case 2:
		m.add(api.NodeCall, "", 0, append(m.many(3, kid), kid)...)
	case 3, 4:
		m.add(api.NodeUnary, pick(m, "-", "!"), 0, kid)
	default:
		m.add(api.NodeBinary, pick(m, pick(m, signRows...)...), 0, kid, kid)
	}
}

// value puts what a constant may be.
func (m *maker) value() {
	number := func() { m.add(api.NodeInt, "", m.num()) }
	switch m.Intn(4) {
	case 0:
		m.add(api.NodeUnary, "-", 0, number)
	case 1:
		number()
	case 2:
		m.add(api.NodeText, m.text(), 0)
	default:
		m.add(api.NodeBool, pick(m, "true", "false"), 0)
	}
}

// block puts a block, at most so deep.
func (m *maker) block(left int) {
	if left <= 3 || len(m.nodes) > 150 {
		m.add(api.NodeBlock, "", 0)
		return
	}
	m.add(api.NodeBlock, "", 0, m.many(3, func() { m.stmt(left - 1) })...)
}

// stmt puts a statement, at most so deep.
func (m *maker) stmt(left int) {
	expr := func() { m.expr(min(left-1, 2+m.Intn(6))) }
	block := func() { m.block(left - 1) }
	switch m.Intn(8) {
	case 0:
		m.block(left)
	case 1:
		m.variable(expr)
	case 2:
		m.branch(left)
	case 3:
		m.add(api.NodeFor, "", 0, expr, block)
	case 4:
		m.add(api.NodeReturn, "", 0, m.many(1, expr)...)
	case 5:
		m.add(api.NodeShort, m.name(), 0, expr)
	case 6:
		m.add(api.NodeAssign, "", 0, expr, expr)
	default:
		m.add(api.NodeExpr, "", 0, expr)
	}
}

// branch puts a NodeIf, at most so deep.
func (m *maker) branch(left int) {
	kids := []func(){func() { m.expr(min(left-1, 3)) }, func() { m.block(left - 1) }}
	switch m.Intn(3) {
	case 0:
		kids = append(kids, func() { m.block(left - 1) })
	case 1:
		if left > 4 {
			kids = append(kids, func() { m.branch(left - 1) })
		}
	}
	m.add(api.NodeIf, "", 0, kids...)
}

// variable puts a NodeVar.
func (m *maker) variable(expr func()) {
	m.add(api.NodeVar, m.name(), 0, append([]func(){m.typ}, m.many(1, expr)...)...)
}

// decl puts a declaration.
func (m *maker) decl() {
	switch m.Intn(5) {
	case 0:
		m.add(api.NodeConst, m.name(), 0, m.value)
	case 1:
		m.variable(func() { m.expr(1 + m.Intn(22)) })
	case 2:
		m.add(api.NodeStruct, m.name(), 0, m.many(3, func() { m.add(api.NodeField, m.name(), 0, m.typ) })...)
	default:
		kids := m.many(1, func() {
			m.add(api.NodeRecv, m.name(), 0, func() { m.add(api.NodeNamed, m.name(), 0) })
		})
		kids = append(kids, m.many(3, func() { m.add(api.NodeParam, m.name(), 0, m.typ) })...)
		kids = append(kids, m.many(1, m.typ)...)
		kids = append(kids, func() { m.block(4 + m.Intn(19)) })
		m.add(api.NodeFunc, m.name(), 0, kids...)
	}
}

// chance is a tree by chance.
func chance(r *rand.Rand) api.Tree {
	m := &maker{Rand: r}
	kids := m.many(3, func() { m.add(api.NodeImport, m.text(), 0) })
	m.add(api.NodeFile, m.name(), 0, append(kids, m.many(4, m.decl)...)...)
	return api.Tree{Nodes: m.nodes}
}

// bracket puts brackets that are not needed round expressions of a formed text, by chance. Round a constant's value, a package's name and a number behind a sign there may be none.
func bracket(t *testing.T, r *rand.Rand, s string) string {
	x := mustTree(t, s)
	opened, closed := make([]string, len(s)+1), make([]string, len(s)+1)
	var visit func(i int)
	visit = func(i int) {
		n := x.Nodes[i]
		if n.Kind == api.NodeConst || n.Kind == api.NodeFar {
			return
		}
		if isExpr(n.Kind) {
			for r.Intn(4) == 0 {
				opened[n.From] += "("
				closed[n.To] += ")"
			}
		}
		for _, k := range n.Kids {
			visit(k)
		}
	}
	visit(0)
	var b strings.Builder
	for i := range len(s) + 1 {
		b.WriteString(closed[i])
		b.WriteString(opened[i])
		if i < len(s) {
			b.WriteByte(s[i])
		}
	}
	return b.String()
}

// loosen lays a text's tokens with other blanks, empty lines, comments and semicolons, by chance.
func loosen(t *testing.T, r *rand.Rand, s string) string {
	l, spot := lex.Lex(s)
	if spot != (api.Spot{}) {
		t.Fatalf("Lex(%q): %v", s, spot)
	}
	var b strings.Builder
	line := false // a line feed would be an end here
	for i, one := range l {
		word := one.Kind == api.TokWord || one.Kind == api.TokInt
		switch {
		case one.Kind == api.TokEnd && i+1 < len(l) && l[i+1].Text == "}" && r.Intn(2) == 0:
			continue
		case one.Kind == api.TokEnd:
			b.WriteString([]string{";", "\n", "// c; }\n", " ; //\n\n", "\t;\n", "\r\n\n"}[r.Intn(6)])
			line = false
			continue
		case line && word && (l[i-1].Kind == api.TokWord || l[i-1].Kind == api.TokInt), r.Intn(4) == 0:
			b.WriteString([]string{" ", "  ", "\t", "\r "}[r.Intn(4)])
		case !line && r.Intn(4) == 0:
			b.WriteString([]string{"\n", "\n\n", " // c\n", "\t// \"x\n\t// y\n"}[r.Intn(4)])
		}
		b.WriteString(one.Text)
		line = word || one.Kind == api.TokText || one.Text == ")" || one.Text == "]" || one.Text == "}"
	}
	return b.String()
}
