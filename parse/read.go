package parse

import "shipwright/api"

// part is a part of a file: its node, and the parts that come to be its kids.
type part struct {
	api.Node
	parts []*part
}

// wrong is thrown at the first token with which no file goes on.
type wrong struct {
	api.Spot
}

// reader goes through tokens that may be, each for itself: so a Text that is not empty tells its Kind, too.
type reader struct {
	tokens []api.Token
	at     int
}

// read is the tree of tokens, or where they are no file. It is the one face to which all that is wrong comes.
func read(l []api.Token) (t api.Tree, spot api.Spot) {
	defer func() {
		if w, ok := recover().(wrong); ok {
			spot = w.Spot
		}
	}()
	r := reader{tokens: l}
	return number(r.file()), api.Spot{}
}

// number lays the parts as nodes, in preorder.
func number(file *part) api.Tree {
	var t api.Tree
	var lay func(p *part) int
	lay = func(p *part) int {
		i := len(t.Nodes)
		t.Nodes = append(t.Nodes, p.Node)
		var kids []int
		for _, k := range p.parts {
			kids = append(kids, lay(k))
		}
		t.Nodes[i].Kids = kids
		return i
	}
	lay(file)
	return t
}

// start is a part that begins there.
func start(kind, from int) *part {
	return &part{Node: api.Node{Kind: kind, At: from, From: from}}
}

// add gives a part further ones that come to be its kids.
func (p *part) add(parts ...*part) {
	p.parts = append(p.parts, parts...)
}

// says lets a token's word be the part's Text.
func (p *part) says(t api.Token) {
	p.Text, p.At = t.Text, t.At
}

// begin is a part that begins with the next token.
func (r *reader) begin(kind int) *part {
	return start(kind, r.here())
}

// done is a part that ends with the last token that was taken, its last kids given.
func (r *reader) done(p *part, parts ...*part) *part {
	p.add(parts...)
	p.To = r.behind()
	return p
}

// leaf is a part of the next token alone.
func (r *reader) leaf(kind int) *part {
	p := r.begin(kind)
	p.says(r.take())
	return r.done(p)
}

// peek is the token so many behind the next one; a zero one, if there are not as many.
func (r *reader) peek(n int) api.Token {
	if r.at+n >= len(r.tokens) {
		return api.Token{}
	}
	return r.tokens[r.at+n]
}

// next is the next token.
func (r *reader) next() api.Token {
	return r.peek(0)
}

// here is where the next token stands, or, where there is none, where the last one ends.
func (r *reader) here() int {
	if r.at < len(r.tokens) {
		return r.tokens[r.at].At
	}
	return r.behind()
}

// behind is where the last token that was taken ends.
func (r *reader) behind() int {
	if r.at == 0 {
		return 0
	}
	t := r.tokens[r.at-1]
	return t.At + len(t.Text)
}

// wrong is what is thrown, if the next token is wrong.
func (r *reader) wrong() wrong {
	return wrong{api.Spot{Err: api.ErrParse, At: r.here()}}
}

// is tells whether the next token has that Text.
func (r *reader) is(text string) bool {
	return r.next().Text == text
}

// named tells whether the next token is a name.
func (r *reader) named() bool {
	t := r.next()
	return t.Kind == api.TokWord && !Kept(t.Text)
}

// take goes on by one token.
func (r *reader) take() api.Token {
	t := r.next()
	r.at++
	return t
}

// skip goes on by one token, if it has that Text.
func (r *reader) skip(text string) bool {
	ok := r.is(text)
	if ok {
		r.at++
	}
	return ok
}

// must takes a token, if it is a right one.
func (r *reader) must(right bool) api.Token {
	if !right {
		panic(r.wrong())
	}
	return r.take()
}

// expect takes a token of that Text.
func (r *reader) expect(text string) {
	r.must(r.is(text))
}

// kind takes a token of that Kind.
func (r *reader) kind(kind int) api.Token {
	return r.must(r.next().Kind == kind)
}

// name takes a name.
func (r *reader) name() api.Token {
	return r.must(r.named())
}

// list is what stands in brackets, with commas between.
func (r *reader) list(one func() *part) []*part {
	r.expect("(")
	if r.skip(")") {
		return nil
	}
	parts := []*part{one()}
	for r.skip(",") {
		parts = append(parts, one())
	}
	r.expect(")")
	return parts
}

// lines is what stands in braces, with ends between, and perhaps one behind the last.
func (r *reader) lines(one func() *part) []*part {
	var parts []*part
	r.expect("{")
	for !r.is("}") {
		parts = append(parts, one())
		if !r.is("}") {
			r.kind(api.TokEnd)
		}
	}
	r.expect("}")
	return parts
}
