package parse_test

import (
	"slices"
	"strconv"
	"strings"

	"shipwright/api"
	"shipwright/lex"
)

// What Parse has to tell is said here anew: the chapter's grammar stands as a text, every way through it is gone for the tokens at hand, and the way that takes them all is turned into nodes. So the tests do not lean on what they test.

const grammar = `
file   = "package" NAME END { "import" TEXT END } { decl END }
decl   = "const" NAME "=" value
       | "var" NAME type [ "=" expr ]
       | "type" NAME "struct" "{" [ field { END field } [ END ] ] "}"
       | "func" [ "(" NAME NAME ")" ] NAME "(" [ param { "," param } ] ")" [ type ] block
field  = NAME type
param  = NAME type
type   = "int" | "bool" | "string" | NAME | NAME "." NAME
block  = "{" [ stmt { END stmt } [ END ] ] "}"
stmt   = block | "var" NAME type [ "=" expr ] | if | "for" expr block
       | "return" [ expr ] | NAME ":=" expr | expr [ "=" expr ]
if     = "if" expr block [ "else" ( block | if ) ]
expr   = and { "||" and }
and    = cmp { "&&" cmp }
cmp    = sum [ ( "==" | "!=" | "<" | "<=" | ">" | ">=" ) sum ]
sum    = term { ( "+" | "-" ) term }
term   = unary { ( "*" | "/" | "%" ) unary }
unary  = ( "-" | "!" ) unary | post
post   = prim { "." NAME | "(" [ expr { "," expr } ] ")" }
prim   = NAME | value1 | "(" expr ")"
value1 = INT | TEXT | "true" | "false"
value  = [ "-" ] INT | TEXT | "true" | "false"
`

var kept = strings.Fields("package import const var type struct func if else for return true false int bool string")

// item is a piece of the grammar: a token ('t'), a rule ('r'), pieces in a row ('s'), one of several ('|'), perhaps ('['), as often as you like ('{').
type item struct {
	op   byte
	word string
	sub  []item
}

var rules = readRules()

// readRules reads the grammar: its words are parted by blanks.
func readRules() map[string]item {
	found := map[string]item{}
	name, words := "", []string(nil)
	keep := func() {
		if name != "" {
			found[name], _ = readChoice(words)
		}
	}
	for _, line := range strings.Split(strings.TrimSpace(grammar), "\n") {
		fields := strings.Fields(line)
		if fields[0] == "|" {
			words = append(words, fields...)
			continue
		}
		keep()
		name, words = fields[0], fields[2:]
	}
	keep()
	return found
}

// readChoice reads pieces with | between, up to what closes them, and tells what is left.
func readChoice(words []string) (item, []string) {
	choice := item{op: '|'}
	row := item{op: 's'}
	for len(words) > 0 {
		word := words[0]
		words = words[1:]
		switch {
		case word == "]" || word == "}" || word == ")":
			choice.sub = append(choice.sub, row)
			return choice, words
		case word == "|":
			choice.sub = append(choice.sub, row)
			row = item{op: 's'}
		case word == "[" || word == "{" || word == "(":
			var inner item
			inner, words = readChoice(words)
			if word != "(" {
				inner = item{op: word[0], sub: []item{inner}}
			}
			row.sub = append(row.sub, inner)
		case word[0] == '"' || word == strings.ToUpper(word):
			row.sub = append(row.sub, item{op: 't', word: word})
		default:
			row.sub = append(row.sub, item{op: 'r', word: word})
		}
	}
	choice.sub = append(choice.sub, row)
	return choice, nil
}

// fits tells whether a token is what the grammar's word asks.
func fits(word string, t api.Token) bool {
	switch word {
	case "NAME":
		return t.Kind == 1 && !slices.Contains(kept, t.Text)
	case "INT":
		return t.Kind == 2
	case "TEXT":
		return t.Kind == 3
	case "END":
		return t.Kind == 5
	}
	return (t.Kind == 1 || t.Kind == 4) && t.Text == strings.Trim(word, `"`)
}

// way is a way through a rule: from one token up to another, and the tokens (no rule) and rules on it.
type way struct {
	rule     string
	from, to int
	sub      []*way
}

// search goes all ways for these tokens. At asked[i] stand the words that were asked of the token i (or behind the last one): only where a file can begin with all tokens ahead of it.
type search struct {
	tokens []api.Token
	found  map[string][]*way
	asked  []map[string]bool
}

// state is how far a way has come.
type state struct {
	at  int
	sub []*way
}

func seek(tokens []api.Token) *search {
	s := &search{tokens: tokens, found: map[string][]*way{}, asked: make([]map[string]bool, len(tokens)+1)}
	s.rule("file", 0)
	return s
}

// rule is all ways of a rule from a token on.
func (s *search) rule(name string, at int) []*way {
	key := name + " " + strconv.Itoa(at)
	if list, ok := s.found[key]; ok {
		return list
	}
	var list []*way
	for _, one := range s.follow(rules[name], state{at: at}) {
		list = append(list, &way{name, at, one.at, one.sub})
	}
	s.found[key] = list
	return list
}

// follow is all states to which a piece leads.
func (s *search) follow(it item, from state) []state {
	switch it.op {
	case 't':
		return s.token(it.word, from)
	case 'r':
		var list []state
		for _, w := range s.rule(it.word, from.at) {
			list = append(list, state{w.to, append(slices.Clone(from.sub), w)})
		}
		return list
	case 's':
		list := []state{from}
		for _, sub := range it.sub {
			var next []state
			for _, one := range list {
				next = append(next, s.follow(sub, one)...)
			}
			list = next
		}
		return list
	case '|':
		var list []state
		for _, sub := range it.sub {
			list = append(list, s.follow(sub, from)...)
		}
		return list
	case '[':
		return append([]state{from}, s.follow(it.sub[0], from)...)
	}
	list := []state{from}
	for i := 0; i < len(list); i++ {
		list = append(list, s.follow(it.sub[0], list[i])...)
	}
	return list
}

func (s *search) token(word string, from state) []state {
	if s.asked[from.at] == nil {
		s.asked[from.at] = map[string]bool{}
	}
	s.asked[from.at][word] = true
	if from.at == len(s.tokens) || !fits(word, s.tokens[from.at]) {
		return nil
	}
	return []state{{from.at + 1, append(slices.Clone(from.sub), &way{"", from.at, from.at + 1, nil})}}
}

// far is the first token that is wrong; how many there are, if none is.
func (s *search) far() int {
	n := len(s.tokens)
	for s.asked[n] == nil {
		n--
	}
	return n
}

// goesOn tells whether a file that begins with all tokens can go on with that one.
func (s *search) goesOn(t api.Token) bool {
	for word := range s.asked[len(s.tokens)] {
		if fits(word, t) {
			return true
		}
	}
	return false
}

// file is the way that takes all tokens, if there is one.
func (s *search) file() *way {
	for _, w := range s.rule("file", 0) {
		if w.to == len(s.tokens) {
			return w
		}
	}
	return nil
}

// knot is a node that has its kids.
type knot struct {
	api.Node
	kids []*knot
}

// stop is where a token ends.
func stop(t api.Token) int { return t.At + len(t.Text) }

// text is the token at which a way begins.
func (s *search) text(w *way) string { return s.tokens[w.from].Text }

// knot is a node from one way's first token to another's last one, whose word is that of a third.
func (s *search) knot(kind int, first, last, word *way, kids ...*knot) *knot {
	k := &knot{kids: kids}
	k.Kind, k.From, k.To = kind, s.tokens[first.from].At, stop(s.tokens[last.to-1])
	k.At = k.From
	if word != nil {
		k.Text, k.At = s.text(word), s.tokens[word.from].At
	}
	return k
}

// leaf is a node of one token.
func (s *search) leaf(kind int, w *way) *knot {
	k := s.knot(kind, w, w, w)
	switch kind {
	case api.NodeInt:
		k.Num, _ = strconv.ParseInt(k.Text, 10, 64)
		k.Text = ""
	case api.NodeText, api.NodeImport:
		k.Text, _ = lex.Value(s.tokens[w.from])
	}
	return k
}

// turn is the node of a way through a rule.
func (s *search) turn(w *way) *knot {
	sub, last := w.sub, w.sub[len(w.sub)-1]
	switch w.rule {
	case "file":
		return s.turnFile(w)
	case "decl":
		return s.turnDecl(w)
	case "field":
		return s.knot(api.NodeField, w, w, sub[0], s.turn(sub[1]))
	case "param":
		return s.knot(api.NodeParam, w, w, sub[0], s.turn(sub[1]))
	case "type":
		if len(sub) == 3 {
			return s.knot(api.NodeFar, w, w, sub[2], s.leaf(api.NodeName, sub[0]))
		}
		if slices.Contains([]string{"int", "bool", "string"}, s.text(w)) {
			return s.leaf(api.NodeBasic, w)
		}
		return s.leaf(api.NodeNamed, w)
	case "block":
		return s.knot(api.NodeBlock, w, w, nil, s.turnAll(sub)...)
	case "if":
		return s.knot(api.NodeIf, w, w, nil, s.turnAll(sub)...)
	case "stmt":
		return s.turnStmt(w)
	case "expr", "and", "cmp", "sum", "term":
		k := s.turn(sub[0])
		for i := 1; i < len(sub); i += 2 {
			k = s.knot(api.NodeBinary, sub[0], sub[i+1], sub[i], k, s.turn(sub[i+1]))
		}
		return k
	case "unary":
		if len(sub) == 2 {
			return s.knot(api.NodeUnary, w, w, sub[0], s.turn(last))
		}
		return s.turn(last)
	case "post":
		return s.turnPost(w)
	case "prim":
		if len(sub) == 3 {
			return s.turn(sub[1])
		}
		if sub[0].rule == "value1" {
			return s.turn(sub[0])
		}
		return s.leaf(api.NodeName, w)
	}
	return s.turnValue(w)
}

// turnAll is the nodes of those that are rules.
func (s *search) turnAll(list []*way) []*knot {
	var kids []*knot
	for _, w := range list {
		if w.rule != "" {
			kids = append(kids, s.turn(w))
		}
	}
	return kids
}

func (s *search) turnFile(w *way) *knot {
	f := s.knot(api.NodeFile, w, w, w.sub[1])
	for i, one := range w.sub {
		switch {
		case one.rule != "":
			f.kids = append(f.kids, s.turn(one))
		case i > 1 && s.text(one) == "import":
			k := s.leaf(api.NodeImport, w.sub[i+1])
			k.From = s.tokens[one.from].At
			f.kids = append(f.kids, k)
		}
	}
	return f
}

func (s *search) turnDecl(w *way) *knot {
	sub := w.sub
	kids := s.turnAll(sub)
	switch s.text(w) {
	case "const":
		return s.knot(api.NodeConst, w, w, sub[1], kids...)
	case "var":
		return s.knot(api.NodeVar, w, w, sub[1], kids...)
	case "type":
		return s.knot(api.NodeStruct, w, w, sub[1], kids...)
	}
	if s.text(sub[1]) != "(" {
		return s.knot(api.NodeFunc, w, w, sub[1], kids...)
	}
	of := s.knot(api.NodeRecv, sub[2], sub[3], sub[2], s.leaf(api.NodeNamed, sub[3]))
	return s.knot(api.NodeFunc, w, w, sub[5], append([]*knot{of}, kids...)...)
}

func (s *search) turnStmt(w *way) *knot {
	sub := w.sub
	kids := s.turnAll(sub)
	if sub[0].rule == "block" || sub[0].rule == "if" {
		return kids[0]
	}
	switch {
	case sub[0].rule == "expr" && len(sub) == 3:
		return s.knot(api.NodeAssign, w, w, nil, kids...)
	case sub[0].rule == "expr":
		return s.knot(api.NodeExpr, w, w, nil, kids...)
	case s.text(w) == "var":
		return s.knot(api.NodeVar, w, w, sub[1], kids...)
	case s.text(w) == "for":
		return s.knot(api.NodeFor, w, w, nil, kids...)
	case s.text(w) == "return":
		return s.knot(api.NodeReturn, w, w, nil, kids...)
	}
	return s.knot(api.NodeShort, w, w, sub[0], kids...)
}

func (s *search) turnPost(w *way) *knot {
	k := s.turn(w.sub[0])
	var handed []*knot
	for i, one := range w.sub[1:] {
		switch {
		case one.rule == "expr":
			handed = append(handed, s.turn(one))
		case s.text(one) == ")":
			k = s.knot(api.NodeCall, w, one, nil, append([]*knot{k}, handed...)...)
			handed = nil
		case s.text(one) == ".":
			name := w.sub[i+2]
			k = s.knot(api.NodeDot, w, name, name, k)
		}
	}
	return k
}

// turnValue is a value's or a value1's node.
func (s *search) turnValue(w *way) *knot {
	if len(w.sub) == 2 {
		return s.knot(api.NodeUnary, w, w, w.sub[0], s.leaf(api.NodeInt, w.sub[1]))
	}
	switch s.tokens[w.from].Kind {
	case 2:
		return s.leaf(api.NodeInt, w)
	case 3:
		return s.leaf(api.NodeText, w)
	}
	return s.leaf(api.NodeBool, w)
}

// lay numbers the nodes, in preorder.
func lay(k *knot) api.Tree {
	var list []*knot
	var walk func(k *knot)
	walk = func(k *knot) {
		list = append(list, k)
		for _, one := range k.kids {
			walk(one)
		}
	}
	walk(k)
	number := map[*knot]int{}
	for i, one := range list {
		number[one] = i
	}
	var t api.Tree
	for _, one := range list {
		n := one.Node
		n.Kids = nil
		for _, kid := range one.kids {
			n.Kids = append(n.Kids, number[kid])
		}
		t.Nodes = append(t.Nodes, n)
	}
	return t
}

// deep is how deep the deepest node is.
func deep(k *knot) int {
	most := 0
	for _, one := range k.kids {
		most = max(most, deep(one))
	}
	return most + 1
}

// wantParse is what Parse has to tell, and which token is the first wrong one (as many as there are, if none is).
func wantParse(l []api.Token) (api.Tree, api.Spot, int) {
	for i, t := range l {
		if t.At < 0 || i > 0 && t.At <= l[i-1].At {
			return api.Tree{}, api.Spot{Err: api.ErrArg}, 0
		}
	}
	if lex.Check(l) != api.OK {
		return api.Tree{}, api.Spot{Err: api.ErrArg}, 0
	}
	s := seek(l)
	w := s.file()
	far := s.far()
	switch {
	case w != nil:
	case far < len(l):
		return api.Tree{}, api.Spot{Err: api.ErrParse, At: l[far].At}, far
	case far == 0:
		return api.Tree{}, api.Spot{Err: api.ErrParse}, far
	default:
		return api.Tree{}, api.Spot{Err: api.ErrParse, At: stop(l[far-1])}, far
	}
	k := s.turn(w)
	t := lay(k)
	if len(t.Nodes) > 2048 || deep(k) > 24 {
		return api.Tree{}, api.Spot{Err: api.ErrLong}, far
	}
	return t, api.Spot{}, far
}
