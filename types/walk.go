package types

import "shipwright/api"

// declaration goes through a kid of a NodeFile.
func (c *checker) declaration(i int) {
	n := c.node(i)
	switch n.Kind {
	case api.NodeConst:
		c.expr(n.Kids[0])
	case api.NodeVar:
		for _, k := range n.Kids[1:] {
			c.first(k)
		}
		c.variable(i)
	case api.NodeFunc:
		body := n.Kids[len(n.Kids)-1]
		c.tells = c.typ(i)
		c.stmt(body)
		c.must(n, c.tells == api.Typ{} || c.ends(body), api.ErrReturn)
	}
}

// first looks, in the expression with which a variable of a package begins, for what can't stand there.
func (c *checker) first(i int) {
	n := c.node(i)
	c.must(n, c.starts(i, n), api.ErrStart)
	for _, k := range n.Kids {
		c.first(k)
	}
}

// starts tells whether a node can stand in the expression with which a variable of a package begins. A point behind what is no import means nothing yet: it can't.
func (c *checker) starts(i int, n api.Node) bool {
	switch n.Kind {
	case api.NodeCall:
		return false
	case api.NodeBinary:
		return n.Text != "+" && n.Text != "/" && n.Text != "%"
	case api.NodeName, api.NodeDot:
		u := c.meaning(i)
		return u.Kind == api.UseImport || c.declares(u) == api.NodeConst
	}
	return true
}

// stmt goes through a statement.
func (c *checker) stmt(i int) {
	n := c.node(i)
	switch n.Kind {
	case api.NodeBlock:
		c.stmts(n.Kids)
	case api.NodeVar:
		c.variable(i)
	case api.NodeIf, api.NodeFor:
		t := c.expr(n.Kids[0])
		c.stmts(n.Kids[1:])
		c.must(n, t == basic(api.TypBool), api.ErrType)
	case api.NodeReturn:
		c.result(n)
	case api.NodeShort:
		t := c.expr(n.Kids[0])
		c.must(n, t != api.Typ{}, api.ErrType)
		c.Types[c.file][i] = t
	case api.NodeAssign:
		to, from := c.expr(n.Kids[0]), c.expr(n.Kids[1])
		c.must(n, c.takes(n.Kids[0]), api.ErrAssign)
		c.must(n, to == from, api.ErrType)
	case api.NodeExpr:
		c.expr(n.Kids[0])
		c.must(n, c.node(n.Kids[0]).Kind == api.NodeCall, api.ErrCall)
	}
}

// stmts goes through statements.
func (c *checker) stmts(list []int) {
	for _, k := range list {
		c.stmt(k)
	}
}

// variable goes through the expression of a NodeVar, if it has one.
func (c *checker) variable(i int) {
	n := c.node(i)
	for _, k := range n.Kids[1:] {
		t := c.expr(k)
		c.must(n, t == c.typ(i), api.ErrType)
	}
}

// result goes through a NodeReturn. Where it has an expression, that must have a type: what tells nothing has none either.
func (c *checker) result(n api.Node) {
	var t api.Typ
	for _, k := range n.Kids {
		t = c.expr(k)
		c.must(n, t != api.Typ{}, api.ErrReturn)
	}
	c.must(n, t == c.tells, api.ErrReturn)
}

// takes tells whether something can be put into an expression.
func (c *checker) takes(i int) bool {
	u := c.meaning(i)
	switch c.declares(u) {
	case api.NodeVar, api.NodeRecv, api.NodeParam, api.NodeShort:
		return true
	case api.NodeField:
		return c.takes(c.node(i).Kids[0])
	}
	return false
}

// ends tells whether a statement ends.
func (c *checker) ends(i int) bool {
	n := c.node(i)
	switch n.Kind {
	case api.NodeReturn:
		return true
	case api.NodeBlock:
		return len(n.Kids) > 0 && c.ends(n.Kids[len(n.Kids)-1])
	case api.NodeIf:
		return len(n.Kids) == 3 && c.ends(n.Kids[1]) && c.ends(n.Kids[2])
	}
	return false
}
