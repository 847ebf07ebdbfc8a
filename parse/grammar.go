package parse

import (
	"shipwright/api"
	"shipwright/lex"
)

// file = "package" NAME END { "import" TEXT END } { decl END }
func (r *reader) file() *part {
	f := r.begin(api.NodeFile)
	r.expect("package")
	f.says(r.name())
	r.kind(api.TokEnd)
	for r.is("import") {
		f.add(r.imported())
		r.kind(api.TokEnd)
	}
	for r.at < len(r.tokens) {
		f.add(r.decl())
		r.kind(api.TokEnd)
	}
	return r.done(f)
}

// "import" TEXT
func (r *reader) imported() *part {
	i := r.begin(api.NodeImport)
	r.expect("import")
	t := r.kind(api.TokText)
	i.says(t)
	i.Text, _ = lex.Value(t)
	return r.done(i)
}

// decl is one of the four below.
func (r *reader) decl() *part {
	switch r.next().Text {
	case "const":
		return r.constant()
	case "var":
		return r.variable()
	case "type":
		return r.structure()
	case "func":
		return r.function()
	}
	panic(r.wrong())
}

// "const" NAME "=" value
func (r *reader) constant() *part {
	c := r.begin(api.NodeConst)
	r.expect("const")
	c.says(r.name())
	r.expect("=")
	return r.done(c, r.value())
}

// "var" NAME type [ "=" expr ]
func (r *reader) variable() *part {
	v := r.begin(api.NodeVar)
	r.expect("var")
	v.says(r.name())
	v.add(r.typ())
	if r.skip("=") {
		v.add(r.expr())
	}
	return r.done(v)
}

// "type" NAME "struct" "{" [ field { END field } [ END ] ] "}"
func (r *reader) structure() *part {
	s := r.begin(api.NodeStruct)
	r.expect("type")
	s.says(r.name())
	r.expect("struct")
	return r.done(s, r.lines(r.field)...)
}

// "func" [ "(" NAME NAME ")" ] NAME "(" [ param { "," param } ] ")" [ type ] block
func (r *reader) function() *part {
	f := r.begin(api.NodeFunc)
	r.expect("func")
	if r.skip("(") {
		f.add(r.receiver())
		r.expect(")")
	}
	f.says(r.name())
	f.add(r.list(r.param)...)
	if !r.is("{") {
		f.add(r.typ())
	}
	return r.done(f, r.block())
}

// NAME NAME
func (r *reader) receiver() *part {
	p := r.begin(api.NodeRecv)
	p.says(r.name())
	return r.done(p, r.word(api.NodeNamed))
}

// field = NAME type
func (r *reader) field() *part {
	return r.typed(api.NodeField)
}

// param = NAME type
func (r *reader) param() *part {
	return r.typed(api.NodeParam)
}

// typed is a name and its type.
func (r *reader) typed(kind int) *part {
	p := r.begin(kind)
	p.says(r.name())
	return r.done(p, r.typ())
}

// type = "int" | "bool" | "string" | NAME | NAME "." NAME
func (r *reader) typ() *part {
	switch r.next().Text {
	case "int", "bool", "string":
		return r.leaf(api.NodeBasic)
	}
	if r.peek(1).Text != "." {
		return r.word(api.NodeNamed)
	}
	f := r.begin(api.NodeFar)
	f.add(r.word(api.NodeName))
	r.expect(".")
	f.says(r.name())
	return r.done(f)
}

// word is a part of a name alone.
func (r *reader) word(kind int) *part {
	if !r.named() {
		panic(r.wrong())
	}
	return r.leaf(kind)
}

// block = "{" [ stmt { END stmt } [ END ] ] "}"
func (r *reader) block() *part {
	b := r.begin(api.NodeBlock)
	return r.done(b, r.lines(r.stmt)...)
}

// stmt = block | "var" .. | if | "for" .. | "return" .. | NAME ":=" expr | expr [ "=" expr ]
func (r *reader) stmt() *part {
	switch r.next().Text {
	case "{":
		return r.block()
	case "var":
		return r.variable()
	case "if":
		return r.branch()
	case "for":
		return r.loop()
	case "return":
		return r.result()
	}
	if r.named() && r.peek(1).Text == ":=" {
		return r.short()
	}
	return r.simple()
}

// if = "if" expr block [ "else" ( block | if ) ]
func (r *reader) branch() *part {
	b := r.begin(api.NodeIf)
	r.expect("if")
	b.add(r.expr(), r.block())
	if r.skip("else") {
		if r.is("if") {
			b.add(r.branch())
		} else {
			b.add(r.block())
		}
	}
	return r.done(b)
}

// "for" expr block
func (r *reader) loop() *part {
	l := r.begin(api.NodeFor)
	r.expect("for")
	return r.done(l, r.expr(), r.block())
}

// "return" [ expr ]
func (r *reader) result() *part {
	p := r.begin(api.NodeReturn)
	r.expect("return")
	if r.next().Kind != api.TokEnd && !r.is("}") {
		p.add(r.expr())
	}
	return r.done(p)
}

// NAME ":=" expr
func (r *reader) short() *part {
	s := r.begin(api.NodeShort)
	s.says(r.name())
	r.expect(":=")
	return r.done(s, r.expr())
}

// expr [ "=" expr ]
func (r *reader) simple() *part {
	s := r.begin(api.NodeExpr)
	s.add(r.expr())
	if r.skip("=") {
		s.Kind = api.NodeAssign
		s.add(r.expr())
	}
	return r.done(s)
}

// expr = and { "||" and }
func (r *reader) expr() *part {
	return r.binary(0)
}

// binary is expr, and, cmp, sum or term: what signs of a row stand between, or of one above it.
func (r *reader) binary(level int) *part {
	if level == len(rows) {
		return r.unary()
	}
	from := r.here()
	p := r.binary(level + 1)
	for row(r.next().Text) == level {
		b := start(api.NodeBinary, from)
		b.says(r.take())
		p = r.done(b, p, r.binary(level+1))
		if level == compared {
			break
		}
	}
	return p
}

// unary = ( "-" | "!" ) unary | post
func (r *reader) unary() *part {
	if !r.is("-") && !r.is("!") {
		return r.post()
	}
	u := r.begin(api.NodeUnary)
	u.says(r.take())
	return r.done(u, r.unary())
}

// post = prim { "." NAME | "(" [ expr { "," expr } ] ")" }
func (r *reader) post() *part {
	from := r.here()
	p := r.prim()
	for {
		switch {
		case r.skip("."):
			d := start(api.NodeDot, from)
			d.says(r.name())
			p = r.done(d, p)
		case r.is("("):
			c := start(api.NodeCall, from)
			c.add(p)
			p = r.done(c, r.list(r.expr)...)
		default:
			return p
		}
	}
}

// prim = NAME | value1 | "(" expr ")"
func (r *reader) prim() *part {
	if r.skip("(") {
		p := r.expr()
		r.expect(")")
		return p
	}
	if r.named() {
		return r.leaf(api.NodeName)
	}
	return r.value1()
}

// value1 = INT | TEXT | "true" | "false"
func (r *reader) value1() *part {
	t := r.next()
	switch {
	case t.Kind == api.TokInt:
		p := r.leaf(api.NodeInt)
		p.Text = ""
		p.Num, _ = lex.Number(t)
		return p
	case t.Kind == api.TokText:
		p := r.leaf(api.NodeText)
		p.Text, _ = lex.Value(t)
		return p
	case t.Text == "true" || t.Text == "false":
		return r.leaf(api.NodeBool)
	}
	panic(r.wrong())
}

// value = [ "-" ] INT | TEXT | "true" | "false"
func (r *reader) value() *part {
	if !r.is("-") {
		return r.value1()
	}
	u := r.begin(api.NodeUnary)
	u.says(r.take())
	if r.next().Kind != api.TokInt {
		panic(r.wrong())
	}
	return r.done(u, r.value1())
}
