package parse

import (
	"strconv"

	"shipwright/api"
	"shipwright/lex"
)

// writer lays nodes in preorder as tokens. Of nodes that are no tree it lays what it can: read again, these are not the same nodes.
type writer struct {
	nodes  []api.Node
	tokens []api.Token
}

// write is the tokens of a tree.
func write(t api.Tree) []api.Token {
	w := writer{nodes: t.Nodes}
	w.node(0)
	return w.tokens
}

// node lays a node: the file, what is declared, and its types.
func (w *writer) node(i int) {
	n := w.nodes[i]
	switch n.Kind {
	case api.NodeFile:
		w.words("package", n.Text)
		w.end()
		w.ended(n.Kids)
	case api.NodeImport:
		w.words("import")
		w.text(n.Text)
	case api.NodeConst:
		w.words("const", n.Text)
		w.sign("=")
		w.all(n.Kids)
	case api.NodeVar:
		w.words("var", n.Text)
		w.parted(n.Kids, "=")
	case api.NodeStruct:
		w.words("type", n.Text, "struct")
		w.braced(n.Kids)
	case api.NodeFunc:
		w.function(n)
	case api.NodeField, api.NodeRecv, api.NodeParam:
		w.words(n.Text)
		w.all(n.Kids)
	case api.NodeBasic, api.NodeNamed:
		w.words(n.Text)
	case api.NodeFar:
		w.all(n.Kids)
		w.sign(".")
		w.words(n.Text)
	default:
		w.stmt(n)
	}
}

// function lays a NodeFunc.
func (w *writer) function(n api.Node) {
	receivers, rest := w.cut(n.Kids, api.NodeRecv)
	params, rest := w.cut(rest, api.NodeParam)
	w.words("func")
	if len(receivers) > 0 {
		w.bracketed(receivers)
	}
	w.words(n.Text)
	w.bracketed(params)
	w.all(rest)
}

// stmt lays a statement.
func (w *writer) stmt(n api.Node) {
	switch n.Kind {
	case api.NodeBlock:
		w.braced(n.Kids)
	case api.NodeIf:
		w.branch(n)
	case api.NodeFor:
		w.words("for")
		w.all(n.Kids)
	case api.NodeReturn:
		w.words("return")
		w.all(n.Kids)
	case api.NodeShort:
		w.words(n.Text)
		w.sign(":=")
		w.all(n.Kids)
	case api.NodeAssign:
		w.parted(n.Kids, "=")
	case api.NodeExpr:
		w.all(n.Kids)
	default:
		w.expr(n)
	}
}

// branch lays a NodeIf.
func (w *writer) branch(n api.Node) {
	w.words("if")
	for i, k := range n.Kids {
		if i == 2 {
			w.words("else")
		}
		w.node(k)
	}
}

// expr lays an expression.
func (w *writer) expr(n api.Node) {
	switch n.Kind {
	case api.NodeInt:
		w.put(api.TokInt, strconv.FormatInt(n.Num, 10))
	case api.NodeText:
		w.text(n.Text)
	case api.NodeBool, api.NodeName:
		w.words(n.Text)
	case api.NodeDot:
		w.operand(n, 0)
		w.sign(".")
		w.words(n.Text)
	case api.NodeCall:
		w.operand(n, 0)
		w.bracketed(n.Kids[min(1, len(n.Kids)):])
	case api.NodeUnary:
		w.sign(n.Text)
		w.operand(n, 0)
	case api.NodeBinary:
		w.operand(n, 0)
		w.sign(n.Text)
		w.operand(n, 1)
	}
}

// operand lays a kid of an expression, if it is there, in brackets where they are needed.
func (w *writer) operand(n api.Node, i int) {
	if i >= len(n.Kids) {
		return
	}
	kid := n.Kids[i : i+1]
	if needed(n, w.nodes[kid[0]], i) {
		w.bracketed(kid)
	} else {
		w.all(kid)
	}
}

// needed tells whether the kid number i of an expression would come to be another one's, or none, without brackets.
func needed(n, kid api.Node, i int) bool {
	unary, binary := kid.Kind == api.NodeUnary, kid.Kind == api.NodeBinary
	if n.Kind == api.NodeUnary {
		return binary
	}
	if n.Kind != api.NodeBinary {
		return unary || binary
	}
	outer, inner := row(n.Text), row(kid.Text)
	return binary && (inner < outer || inner == outer && (i > 0 || inner == compared))
}

// cut parts nodes behind those ahead that are of a Kind.
func (w *writer) cut(list []int, kind int) (ahead, rest []int) {
	n := 0
	for n < len(list) && w.nodes[list[n]].Kind == kind {
		n++
	}
	return list[:n], list[n:]
}

// put lays tokens of a Kind.
func (w *writer) put(kind int, texts ...string) {
	for _, s := range texts {
		w.tokens = append(w.tokens, api.Token{Kind: kind, Text: s})
	}
}

// words lays words.
func (w *writer) words(texts ...string) {
	w.put(api.TokWord, texts...)
}

// sign lays a sign.
func (w *writer) sign(s string) {
	w.put(api.TokSign, s)
}

// end lays an end.
func (w *writer) end() {
	w.put(api.TokEnd, ";")
}

// text lays the text that says s; of what no text says, a token that may not be.
func (w *writer) text(s string) {
	quoted, _ := lex.Quote(s)
	w.put(api.TokText, quoted)
}

// all lays nodes one behind the other.
func (w *writer) all(list []int) {
	for _, k := range list {
		w.node(k)
	}
}

// parted lays nodes with a sign between them.
func (w *writer) parted(list []int, sign string) {
	for i, k := range list {
		if i > 0 {
			w.sign(sign)
		}
		w.node(k)
	}
}

// ended lays nodes with an end behind each.
func (w *writer) ended(list []int) {
	for _, k := range list {
		w.node(k)
		w.end()
	}
}

// braced lays nodes in braces, with an end behind each.
func (w *writer) braced(list []int) {
	w.sign("{")
	w.ended(list)
	w.sign("}")
}

// bracketed lays nodes in brackets, with commas between them.
func (w *writer) bracketed(list []int) {
	w.sign("(")
	w.parted(list, ",")
	w.sign(")")
}
