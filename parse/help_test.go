package parse_test

import (
	"math/rand"
	"slices"
	"strings"
	"testing"

	"shipwright/api"
	"shipwright/lex"
	"shipwright/parse"
)

// semi is an end that stands there, bare one without Text, stray a token with which no file ever goes on, and which may be the last one.
var (
	semi  = api.Token{Kind: api.TokEnd, Text: ";"}
	bare  = api.Token{Kind: api.TokEnd}
	stray = api.Token{Kind: api.TokSign, Text: ":"}
)

// alphabet is a token of each kind that the grammar tells from the others, and some that it does not have.
var alphabet = tokens(append(strings.Fields(`a b 1 "s" ; := == != <= >= && || ( ) { } [ ] , . : = + - * / % < > !`), kept...))

// files are texts that have each way of each rule in them.
var files = []string{
	"package a",
	"package a;import \"b\";import \"c/d\";",
	"package a\nconst c = 1\nconst d = -2\nconst e = \"s\\n\"\nconst f = true\nconst g = false\n",
	"package a\nimport \"b\"\nvar x int\nvar y bool = true\nvar z string = \"\"\nvar u t\nvar v b.t = w\n",
	"package a\ntype t struct {}\ntype u struct { x int }\ntype v struct {\n\tx int\n\ty b.c\n}\n",
	"package a\nfunc f() {}\nfunc g(x int) int { return x }\n",
	"package a\nfunc (s t) h(x t, y b.u, z bool) b.t {\n\treturn\n}\n",
	"package a; func f() { if a { b } else { c }; if a { } else if b { c } else { }; if a { } }",
	"package a\nfunc f() {\n\tfor x < 1 {\n\t\tx = x + 1\n\t}\n\t{\n\t\tvar y int = 1\n\t\tvar v bool\n\t\tz := y\n\t}\n\t{}\n}\n",
	"package a\nfunc f() {\n\tf()\n\t(a).b = (c)\n\treturn a.b\n\treturn 1; }\n",
	"package a\nvar x int = -(a + b) * !c.d(1, \"s\")(e)(f.g, -1)()\n",
	"package a\nvar x bool = a || b && c == d - e % f / g * 2 + h && !(i < j) || true\n",
	"package a\nvar x bool = ((a)).b((c), ((d))) <= (e - (f - g)) - (-h)\n",
	"package a\nvar x int = (f)(1)(2).g.h(false, \"\")\n",
}

// place lays places under tokens: each begins so many bytes behind the end of the one ahead of it.
func place(l []api.Token, gap int) []api.Token {
	list := slices.Clone(l)
	at := gap
	for i := range list {
		list[i].At = at
		at += len(list[i].Text) + gap
	}
	return list
}

// say is the tokens of words that are parted by blanks, with places.
func say(words string) []api.Token { return place(tokens(strings.Fields(words)), 1) }

// mustLex is the tokens of a text.
func mustLex(t *testing.T, s string) []api.Token {
	t.Helper()
	l, spot := lex.Lex(s)
	if spot != (api.Spot{}) {
		t.Fatalf("Lex(%q): %v", s, spot)
	}
	return l
}

// mustTree is the tree of a text.
func mustTree(t *testing.T, s string) api.Tree {
	t.Helper()
	x, spot := parse.Text(s)
	if spot != (api.Spot{}) {
		t.Fatalf("Text(%q): %v", s, spot)
	}
	return x
}

// equal tells whether both trees have the same nodes, with their places.
func equal(a, b api.Tree) bool {
	if !wantSame(a, b) {
		return false
	}
	for i, m := range a.Nodes {
		n := b.Nodes[i]
		if m.At != n.At || m.From != n.From || m.To != n.To {
			return false
		}
	}
	return true
}

// shown is tokens as they are told when something fails.
func shown(l []api.Token) string {
	var parts []string
	for _, t := range l[:min(len(l), 200)] {
		if t.Text == "" {
			t.Text = "$"
		}
		parts = append(parts, t.Text)
	}
	return strings.Join(parts, " ")
}

// check holds Parse of tokens against what it has to tell, and what follows of it.
func check(t *testing.T, l []api.Token) (api.Tree, api.Spot) {
	t.Helper()
	got, spot := parse.Parse(l)
	want, wantSpot, wrong := wantParse(l)
	if spot != wantSpot || !equal(got, want) {
		t.Fatalf("Parse(%s): %v, %v, want %v, %v", shown(l), got, spot, want, wantSpot)
	}
	switch spot.Err {
	case api.OK:
		inside(t, got, 0)
		checkTree(t, got)
	case api.ErrParse:
		checkBehind(t, l[:wrong], l[wrong:], spot)
	}
	return got, spot
}

// inside is P11.5: the kids' places lie within their node's.
func inside(t *testing.T, x api.Tree, i int) {
	t.Helper()
	n := x.Nodes[i]
	if n.At < n.From || n.At > n.To || n.From > n.To {
		t.Fatalf("%v: the node %d is not in its place", x, i)
	}
	for _, k := range n.Kids {
		if kid := x.Nodes[k]; kid.From < n.From || kid.To > n.To {
			t.Fatalf("%v: the node %d does not lie within %d", x, k, i)
		}
		inside(t, x, k)
	}
}

// checkBehind is P11.5: a token put behind the first wrong one changes nothing.
func checkBehind(t *testing.T, right, rest []api.Token, spot api.Spot) {
	t.Helper()
	if len(rest) == 0 {
		return
	}
	for _, one := range []api.Token{semi, stray, token("a")} {
		list := append(slices.Clone(right), rest[0])
		one.At = stop(rest[0]) + 1
		list = append(list, one)
		for _, more := range rest[1:] {
			more.At += 10
			list = append(list, more)
		}
		list = append(list, api.Token{Kind: api.TokEnd, Text: ";", At: stop(list[len(list)-1]) + 1})
		if lex.Check(list) != api.OK {
			continue
		}
		if x, got := parse.Parse(list); got != spot || len(x.Nodes) != 0 {
			t.Fatalf("Parse(%s): %v, %v, want %v", shown(list), x, got, spot)
		}
	}
}

// checkTree holds Check, Depth and Tokens of nodes against what they have to answer, and Parse of the tokens against the nodes.
func checkTree(t *testing.T, x api.Tree) api.Errno {
	t.Helper()
	k := wantTree(x)
	wantErr, wantDepth := api.ErrTree, 0
	if k != nil {
		wantErr, wantDepth = api.OK, deep(k)
	}
	if err := parse.Check(x); err != wantErr {
		t.Fatalf("Check(%v): error %d, want %d", x, err, wantErr)
	}
	if n := parse.Depth(x); n != wantDepth {
		t.Fatalf("Depth(%v): %d, want %d", x, n, wantDepth)
	}
	l, err := parse.Tokens(x)
	want, wantErr := wantTokens(x)
	if err != wantErr || !slices.Equal(l, want) {
		t.Fatalf("Tokens(%v): %s, error %d, want %s, %d", x, shown(l), err, shown(want), wantErr)
	}
	if err == api.OK {
		again, spot := parse.Parse(place(l, 1))
		if spot != (api.Spot{}) || !wantSame(again, x) || !parse.Same(again, x) {
			t.Fatalf("Parse of Tokens(%v), %s: %v, %v", x, shown(l), again, spot)
		}
	}
	return parse.Check(x)
}

// heights say by how many rules in one another the shortest way of a rule goes.
var heights = func() map[string]int {
	found := map[string]int{}
	for name := range rules {
		found[name] = 100
	}
	for range rules {
		for name, it := range rules {
			found[name] = height(it, found)
		}
	}
	return found
}()

// height is a piece's height.
func height(it item, known map[string]int) int {
	switch it.op {
	case 'r':
		return known[it.word] + 1
	case 's':
		most := 0
		for _, sub := range it.sub {
			most = max(most, height(sub, known))
		}
		return most
	case '|':
		least := 1000
		for _, sub := range it.sub {
			least = min(least, height(sub, known))
		}
		return least
	}
	return 0
}

// maker makes tokens of a file by chance.
type maker struct {
	*rand.Rand
	list []api.Token
}

var terminals = map[string][]string{
	"NAME": strings.Fields("a b x f main println _ Int elsewhere i abcdefghijklmnopqrstuvwx"),
	"INT":  strings.Fields("0 1 7 9223372036854775807"),
	"TEXT": {`""`, `"a"`, `"a/b"`, `"\n\"\\"`, `"if x"`},
}

// make goes one way through a piece; the deeper it is, the shorter.
func (m *maker) make(it item, left int) {
	brief := left <= 0 || len(m.list) > 60
	switch it.op {
	case 't':
		m.token(it.word)
	case 'r':
		m.make(rules[it.word], left-1)
	case 's':
		for _, sub := range it.sub {
			m.make(sub, left)
		}
	case '|':
		m.make(m.choose(it.sub, brief), left)
	case '[':
		if !brief && m.Intn(2) == 0 {
			m.make(it.sub[0], left)
		}
	case '{':
		for !brief && len(m.list) < 60 && m.Intn(3) == 0 {
			m.make(it.sub[0], left)
		}
	}
}

// choose is one of several pieces, a lowest one, if it is to be brief.
func (m *maker) choose(list []item, brief bool) item {
	one := list[m.Intn(len(list))]
	if !brief {
		return one
	}
	for _, it := range list {
		if height(it, heights) < height(one, heights) {
			one = it
		}
	}
	return one
}

func (m *maker) token(word string) {
	switch list := terminals[word]; {
	case word == "END" && m.Intn(2) == 0:
		m.list = append(m.list, bare)
	case word == "END":
		m.list = append(m.list, semi)
	case list != nil:
		m.list = append(m.list, token(list[m.Intn(len(list))]))
	default:
		m.list = append(m.list, token(strings.Trim(word, `"`)))
	}
}

// chance is the tokens of a file by chance, with places.
func chance(r *rand.Rand) []api.Token {
	m := maker{Rand: r}
	m.token(`"package"`)
	m.token("NAME")
	m.token("END")
	for range r.Intn(3) {
		if r.Intn(4) == 0 {
			m.token(`"import"`)
			m.token("TEXT")
			m.token("END")
		}
	}
	for range r.Intn(4) {
		m.make(rules["decl"], r.Intn(60))
		m.token("END")
	}
	return place(m.list, r.Intn(3)+1)
}
