package parse_test

import (
	"regexp"
	"slices"
	"strconv"
	"strings"

	"shipwright/api"
)

// Which nodes are a tree, how deep it is and which tokens it has is said here anew, from the chapter's table: each Kind has a letter, and a pattern says which kids it has.

// letters are the Kinds, from NodeFile on.
const letters = "ABCDEFGHIJKLMNOPQRSTUVWXYZz"

const (
	aDecl = "[CDEG]"
	aType = "[JKL]"
	aStmt = "[MDNOPQRS]"
	anExp = "[TUVWXYZz]"
)

// shape is what a Kind has: the words that its Text may be (a name, a text, none, or one of those written out), its kids.
type shape struct {
	text, kids string
}

var shapes = map[int]shape{
	api.NodeFile:   {"NAME", "B*" + aDecl + "*"},
	api.NodeImport: {"TEXT", ""},
	api.NodeConst:  {"NAME", "[TUVZ]"},
	api.NodeVar:    {"NAME", aType + anExp + "?"},
	api.NodeStruct: {"NAME", "F*"},
	api.NodeField:  {"NAME", aType},
	api.NodeFunc:   {"NAME", "H?I*" + aType + "?M"},
	api.NodeRecv:   {"NAME", "K"},
	api.NodeParam:  {"NAME", aType},
	api.NodeBasic:  {"int bool string", ""},
	api.NodeNamed:  {"NAME", ""},
	api.NodeFar:    {"NAME", "W"},
	api.NodeBlock:  {"", aStmt + "*"},
	api.NodeIf:     {"", anExp + "M[MN]?"},
	api.NodeFor:    {"", anExp + "M"},
	api.NodeReturn: {"", anExp + "?"},
	api.NodeShort:  {"NAME", anExp},
	api.NodeAssign: {"", anExp + anExp},
	api.NodeExpr:   {"", anExp},
	api.NodeInt:    {"", ""},
	api.NodeText:   {"TEXT", ""},
	api.NodeBool:   {"true false", ""},
	api.NodeName:   {"NAME", ""},
	api.NodeDot:    {"NAME", anExp},
	api.NodeCall:   {"", anExp + anExp + "*"},
	api.NodeUnary:  {"- !", anExp},
	api.NodeBinary: {"|| && == != < <= > >= + - * / %", anExp + anExp},
}

var patterns = map[int]*regexp.Regexp{}

func init() {
	for kind, s := range shapes {
		patterns[kind] = regexp.MustCompile("^" + s.kids + "$")
	}
}

var (
	aName = regexp.MustCompile(`^[A-Za-z_][A-Za-z0-9_]{0,23}$`)
	aText = regexp.MustCompile(`^[ -~\n]*$`)
)

var escapes = strings.NewReplacer(`"`, `\"`, `\`, `\\`, "\n", `\n`)

// quoted is the token's Text that says s.
func quoted(s string) string { return `"` + escapes.Replace(s) + `"` }

// says tells whether the Text and Num of a node may be.
func says(n api.Node) bool {
	if n.Num != 0 && (n.Kind != api.NodeInt || n.Num < 0) {
		return false
	}
	switch words := shapes[n.Kind].text; words {
	case "NAME":
		return aName.MatchString(n.Text) && !strings.HasSuffix(n.Text, "\n") && !slices.Contains(kept, n.Text)
	case "TEXT":
		return aText.MatchString(n.Text) && len(quoted(n.Text)) <= 4096
	case "":
		return n.Text == ""
	default:
		return slices.Contains(strings.Fields(words), n.Text)
	}
}

// tie is the nodes with their kids, if each but the first one is a kid of just one, in preorder.
func tie(t api.Tree) *knot {
	if len(t.Nodes) == 0 || len(t.Nodes) > 2048 {
		return nil
	}
	parents := map[int]int{}
	for i, n := range t.Nodes {
		for _, k := range n.Kids {
			if _, ok := parents[k]; ok || k <= i || k >= len(t.Nodes) {
				return nil
			}
			parents[k] = i
		}
	}
	if len(parents) != len(t.Nodes)-1 {
		return nil
	}
	var hang func(i int) *knot
	hang = func(i int) *knot {
		k := &knot{Node: t.Nodes[i]}
		for _, one := range t.Nodes[i].Kids {
			k.kids = append(k.kids, hang(one))
		}
		return k
	}
	k := hang(0)
	if !wantSame(lay(k), t) {
		return nil
	}
	return k
}

// shaped tells whether all nodes beneath a node have the Text, Num and kids that their Kinds have.
func shaped(k *knot) bool {
	pattern, ok := patterns[k.Kind]
	if !ok || !says(k.Node) {
		return false
	}
	kinds := ""
	for _, one := range k.kids {
		if !shaped(one) {
			return false
		}
		kinds += letters[one.Kind-1 : one.Kind]
	}
	if k.Kind == api.NodeConst && kinds == "Z" && (k.kids[0].Text != "-" || k.kids[0].kids[0].Kind != api.NodeInt) {
		return false
	}
	return pattern.MatchString(kinds)
}

// wantTree is the nodes with their kids, if they are a tree.
func wantTree(t api.Tree) *knot {
	k := tie(t)
	if k == nil || deep(k) > 24 || k.Kind != api.NodeFile || !shaped(k) {
		return nil
	}
	return k
}

func wantSame(a, b api.Tree) bool {
	if len(a.Nodes) != len(b.Nodes) {
		return false
	}
	for i, m := range a.Nodes {
		n := b.Nodes[i]
		if m.Kind != n.Kind || m.Text != n.Text || m.Num != n.Num || len(m.Kids) != len(n.Kids) {
			return false
		}
		for j := range m.Kids {
			if m.Kids[j] != n.Kids[j] {
				return false
			}
		}
	}
	return true
}

// binds is how tight an expression is: a sign between two by its row, from 1 on, a sign ahead of one 6, all else 7.
func binds(k *knot) int {
	switch k.Kind {
	case api.NodeBinary:
		for i, row := range []string{"||", "&&", "== != < <= > >=", "+ -", "* / %"} {
			if slices.Contains(strings.Fields(row), k.Text) {
				return i + 1
			}
		}
	case api.NodeUnary:
		return 6
	}
	return 7
}

// tight is the words of an expression that has to be at least that tight, in brackets, if it is not.
func tight(k *knot, least int) []string {
	if binds(k) < least {
		return slices.Concat([]string{"("}, spell(k), []string{")"})
	}
	return spell(k)
}

// join is the words of several nodes, with words between them, and behind each.
func join(kids []*knot, between, behind string) []string {
	var list []string
	for i, k := range kids {
		if i > 0 {
			list = append(list, strings.Fields(between)...)
		}
		list = append(append(list, spell(k)...), strings.Fields(behind)...)
	}
	return list
}

// spell is the words of a tree's node. A text begins with a quote, an end is a semicolon.
func spell(k *knot) []string {
	all := func() []string { return join(k.kids, "", "") }
	words := func(s string, more ...[]string) []string {
		return slices.Concat(append([][]string{strings.Fields(s)}, more...)...)
	}
	switch k.Kind {
	case api.NodeFile:
		return words("package "+k.Text+" ;", join(k.kids, "", ";"))
	case api.NodeImport:
		return []string{"import", quoted(k.Text)}
	case api.NodeConst:
		return words("const "+k.Text+" =", all())
	case api.NodeVar:
		return words("var "+k.Text, join(k.kids, "=", ""))
	case api.NodeStruct:
		return words("type "+k.Text+" struct {", join(k.kids, "", ";"), []string{"}"})
	case api.NodeFunc:
		return spellFunc(k)
	case api.NodeField, api.NodeRecv, api.NodeParam:
		return words(k.Text, all())
	case api.NodeFar:
		return words(k.kids[0].Text + " . " + k.Text)
	case api.NodeBlock:
		return words("{", join(k.kids, "", ";"), []string{"}"})
	case api.NodeIf:
		if len(k.kids) == 3 {
			return words("if", join(k.kids[:2], "", ""), []string{"else"}, spell(k.kids[2]))
		}
		return words("if", all())
	case api.NodeFor:
		return words("for", all())
	case api.NodeReturn:
		return words("return", all())
	case api.NodeShort:
		return words(k.Text+" :=", all())
	case api.NodeAssign:
		return join(k.kids, "=", "")
	case api.NodeExpr:
		return all()
	case api.NodeInt:
		return []string{strconv.FormatInt(k.Num, 10)}
	case api.NodeText:
		return []string{quoted(k.Text)}
	case api.NodeDot:
		return slices.Concat(tight(k.kids[0], 7), []string{".", k.Text})
	case api.NodeCall:
		return slices.Concat(tight(k.kids[0], 7), []string{"("}, join(k.kids[1:], ",", ""), []string{")"})
	case api.NodeUnary:
		return slices.Concat([]string{k.Text}, tight(k.kids[0], 6))
	case api.NodeBinary:
		level := binds(k)
		left := level
		if level == 3 {
			left++
		}
		return slices.Concat(tight(k.kids[0], left), []string{k.Text}, tight(k.kids[1], level+1))
	}
	return []string{k.Text}
}

func spellFunc(k *knot) []string {
	list := []string{"func"}
	kids := k.kids
	if kids[0].Kind == api.NodeRecv {
		list = slices.Concat(list, []string{"("}, spell(kids[0]), []string{")"})
		kids = kids[1:]
	}
	params := 0
	for kids[params].Kind == api.NodeParam {
		params++
	}
	return slices.Concat(list, []string{k.Text, "("}, join(kids[:params], ",", ""), []string{")"}, join(kids[params:], "", ""))
}

// token is the token of a word.
func token(s string) api.Token {
	c := s[0]
	switch {
	case s == ";":
		return api.Token{Kind: 5, Text: s}
	case c == '"':
		return api.Token{Kind: 3, Text: s}
	case '0' <= c && c <= '9':
		return api.Token{Kind: 2, Text: s}
	case c == '_' || 'a' <= c && c <= 'z' || 'A' <= c && c <= 'Z':
		return api.Token{Kind: 1, Text: s}
	}
	return api.Token{Kind: 4, Text: s}
}

// tokens is the tokens of words, At 0 each.
func tokens(words []string) []api.Token {
	var list []api.Token
	for _, s := range words {
		list = append(list, token(s))
	}
	return list
}

func wantTokens(t api.Tree) ([]api.Token, api.Errno) {
	k := wantTree(t)
	if k == nil {
		return nil, api.ErrTree
	}
	list := tokens(spell(k))
	if len(list) > 1024 {
		return nil, api.ErrLong
	}
	return list, api.OK
}
