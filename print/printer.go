package print

import (
	"strconv"
	"strings"

	"shipwright/api"
	"shipwright/lex"
)

// compared is the row of the comparisons, of which no two stand side by side without brackets.
const compared = 3

// printer puts texts of the nodes of a tree together. As they are one, each has the kids that its Kind has.
type printer struct {
	strings.Builder
	nodes []api.Node
	deep  int // how many blocks and structs stand round what comes next
}

// textOf is the text of a node of a tree, around which nothing stands.
func textOf(t api.Tree, i int) string {
	p := printer{nodes: t.Nodes}
	p.node(i)
	return p.String()
}

// node puts a node: the file, what is declared, and its types.
func (p *printer) node(i int) {
	n := p.nodes[i]
	switch n.Kind {
	case api.NodeFile:
		p.file(n)
	case api.NodeImport:
		p.put("import ", quoted(n.Text))
	case api.NodeConst:
		p.put("const ", n.Text, " = ")
		p.node(n.Kids[0])
	case api.NodeVar:
		p.put("var ", n.Text, " ")
		p.parted(" = ", n.Kids...)
	case api.NodeStruct:
		p.put("type ", n.Text, " struct ")
		p.braced(n.Kids)
	case api.NodeFunc:
		p.function(n)
	case api.NodeField, api.NodeRecv, api.NodeParam:
		p.put(n.Text, " ")
		p.node(n.Kids[0])
	case api.NodeBasic, api.NodeNamed:
		p.put(n.Text)
	case api.NodeFar:
		p.node(n.Kids[0])
		p.put(".", n.Text)
	default:
		p.stmt(n)
	}
}

// file puts a NodeFile. An empty line stands ahead of the first import, and of each declaration.
func (p *printer) file(n api.Node) {
	p.put("package ", n.Text, "\n")
	for i, k := range n.Kids {
		if i == 0 || p.nodes[k].Kind != api.NodeImport {
			p.put("\n")
		}
		p.line(k)
	}
}

// function puts a NodeFunc.
func (p *printer) function(n api.Node) {
	receivers, rest := p.cut(n.Kids, api.NodeRecv)
	params, rest := p.cut(rest, api.NodeParam)
	p.put("func ")
	if len(receivers) > 0 {
		p.list(receivers...)
		p.put(" ")
	}
	p.put(n.Text)
	p.list(params...)
	p.behind(" ", rest)
}

// stmt puts a statement.
func (p *printer) stmt(n api.Node) {
	switch n.Kind {
	case api.NodeBlock:
		p.braced(n.Kids)
	case api.NodeIf:
		p.put("if ")
		p.parted(" ", n.Kids[:2]...)
		p.behind(" else ", n.Kids[2:])
	case api.NodeFor:
		p.put("for ")
		p.parted(" ", n.Kids...)
	case api.NodeReturn:
		p.put("return")
		p.behind(" ", n.Kids)
	case api.NodeShort:
		p.put(n.Text, " := ")
		p.node(n.Kids[0])
	case api.NodeAssign:
		p.parted(" = ", n.Kids...)
	case api.NodeExpr:
		p.node(n.Kids[0])
	default:
		p.expr(n)
	}
}

// expr puts an expression, without brackets round it.
func (p *printer) expr(n api.Node) {
	switch n.Kind {
	case api.NodeInt:
		p.put(strconv.FormatInt(n.Num, 10))
	case api.NodeText:
		p.put(quoted(n.Text))
	case api.NodeBool, api.NodeName:
		p.put(n.Text)
	case api.NodeDot:
		p.operand(n, 0)
		p.put(".", n.Text)
	case api.NodeCall:
		p.operand(n, 0)
		p.list(n.Kids[1:]...)
	case api.NodeUnary:
		p.put(n.Text)
		p.operand(n, 0)
	case api.NodeBinary:
		p.operand(n, 0)
		p.put(" ", n.Text, " ")
		p.operand(n, 1)
	}
}

// operand puts a kid of an expression, in brackets where they are needed.
func (p *printer) operand(n api.Node, i int) {
	kid := n.Kids[i]
	if needed(n, p.nodes[kid], i) {
		p.list(kid)
	} else {
		p.node(kid)
	}
}

// needed tells whether the kid number i of an expression stands in brackets: whether it would be another one's without.
func needed(n, kid api.Node, i int) bool {
	unary, binary := kid.Kind == api.NodeUnary, kid.Kind == api.NodeBinary
	switch n.Kind {
	case api.NodeUnary:
		return binary
	case api.NodeBinary:
		outer, inner := row(n.Text), row(kid.Text)
		return binary && (inner < outer || inner == outer && (i > 0 || inner == compared))
	}
	return unary || binary
}

// row is the number of the row in which a sign stands, the lowest row being 1.
func row(sign string) int {
	switch sign {
	case "||":
		return 1
	case "&&":
		return 2
	case "==", "!=", "<", "<=", ">", ">=":
		return compared
	case "+", "-":
		return 4
	}
	return 5
}

// quoted is the text that says s. Of a tree each has one.
func quoted(s string) string {
	q, _ := lex.Quote(s)
	return q
}

// cut parts nodes behind those ahead that are of a Kind.
func (p *printer) cut(kids []int, kind int) (ahead, rest []int) {
	n := 0
	for n < len(kids) && p.nodes[kids[n]].Kind == kind {
		n++
	}
	return kids[:n], kids[n:]
}

// put puts texts one behind the other.
func (p *printer) put(texts ...string) {
	for _, s := range texts {
		p.WriteString(s)
	}
}

// parted puts nodes with a text between them.
func (p *printer) parted(between string, kids ...int) {
	for i, k := range kids {
		if i > 0 {
			p.put(between)
		}
		p.node(k)
	}
}

// behind puts nodes with a text ahead of each.
func (p *printer) behind(ahead string, kids []int) {
	for _, k := range kids {
		p.put(ahead)
		p.node(k)
	}
}

// list puts nodes in brackets, with commas between them.
func (p *printer) list(kids ...int) {
	p.put("(")
	p.parted(", ", kids...)
	p.put(")")
}

// braced puts nodes in braces, as lines.
func (p *printer) braced(kids []int) {
	p.put("{\n")
	p.deep++
	for _, k := range kids {
		p.line(k)
	}
	p.deep--
	p.indent()
	p.put("}")
}

// line puts a node as a line, or lines.
func (p *printer) line(i int) {
	p.indent()
	p.node(i)
	p.put("\n")
}

// indent puts the tabulators that stand ahead of a line.
func (p *printer) indent() {
	p.put(strings.Repeat("\t", p.deep))
}
