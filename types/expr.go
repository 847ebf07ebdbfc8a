package types

import (
	"slices"

	"shipwright/api"
	"shipwright/scope"
)

// rule is a sign that stands ahead of one kid, or between two of the same type.
type rule struct {
	sign string
	kids int
	of   api.Typ
}

// expr goes through an expression, and answers its type.
func (c *checker) expr(i int) api.Typ {
	n := c.node(i)
	t := c.found(i, n)
	c.Types[c.file][i] = t
	return t
}

// found is the type of an expression.
func (c *checker) found(i int, n api.Node) api.Typ {
	switch n.Kind {
	case api.NodeInt:
		return basic(api.TypInt)
	case api.NodeBool:
		return basic(api.TypBool)
	case api.NodeText:
		c.must(n, len(n.Text) <= api.MaxString, api.ErrLarge)
		return basic(api.TypString)
	case api.NodeName:
		return c.value(n, c.meaning(i))
	case api.NodeDot:
		return c.value(n, c.dot(i, n))
	case api.NodeCall:
		return c.call(i, n)
	}
	return c.signed(n)
}

// value is the type of a name, or of a name behind a point, which means that.
func (c *checker) value(n api.Node, u api.Use) api.Typ {
	switch c.declares(u) {
	case api.NodeConst, api.NodeVar, api.NodeField, api.NodeRecv, api.NodeParam, api.NodeShort:
		return c.declared(u)
	}
	panic(wrong{api.Place{Err: api.ErrValue, File: c.file, At: n.At}})
}

// dot is what a NodeDot means: a declaration of an import's package, or its kid's field or method.
func (c *checker) dot(i int, n api.Node) api.Use {
	kid := n.Kids[0]
	if c.meaning(kid).Kind == api.UseImport {
		return c.meaning(i)
	}
	t := c.expr(kid)
	u, ok := c.members[member{t, n.Text}]
	c.must(n, ok, api.ErrField)
	c.must(n, c.folders[t.File] == c.folders[c.file] || scope.Shown(n.Text), api.ErrHidden)
	c.Means[c.file][i] = u
	return u
}

// call goes through a NodeCall, and answers the type of what it tells.
func (c *checker) call(i int, n api.Node) api.Typ {
	u := c.called(n.Kids[0])
	var handed []api.Typ
	for _, k := range n.Kids[1:] {
		handed = append(handed, c.expr(k))
	}
	c.must(n, u != api.Use{}, api.ErrCall)
	params := c.accepted(u)
	c.must(n, len(handed) == len(params), api.ErrCall)
	for k, t := range handed {
		c.must(n, slices.Contains(params[k], t), api.ErrType)
	}
	c.Means[c.file][i] = u
	return c.answered(u)
}

// called is what the first kid of a NodeCall means, if that can be called; else zero.
func (c *checker) called(i int) api.Use {
	var u api.Use
	switch n := c.node(i); n.Kind {
	case api.NodeName:
		u = c.meaning(i)
	case api.NodeDot:
		u = c.dot(i, n)
	}
	if u.Kind == api.UseBuiltin || c.declares(u) == api.NodeFunc {
		return u
	}
	return api.Use{}
}

// accepted is which types each param of what is called may have.
func (c *checker) accepted(u api.Use) [][]api.Typ {
	if u.Kind != api.UseBuiltin {
		var list [][]api.Typ
		for _, t := range c.params(u) {
			list = append(list, []api.Typ{t})
		}
		return list
	}
	switch u.Node {
	case api.BuiltinArg:
		return [][]api.Typ{{basic(api.TypInt)}}
	case api.BuiltinLen, api.BuiltinPanic:
		return [][]api.Typ{{basic(api.TypString)}}
	}
	return [][]api.Typ{{basic(api.TypInt), basic(api.TypBool), basic(api.TypString)}}
}

// answered is the type of what that tells which is called, or none.
func (c *checker) answered(u api.Use) api.Typ {
	if u.Kind != api.UseBuiltin {
		return c.declared(u)
	}
	switch u.Node {
	case api.BuiltinLen, api.BuiltinArg:
		return basic(api.TypInt)
	}
	return api.Typ{}
}

// signed is the type of a NodeUnary or NodeBinary.
func (c *checker) signed(n api.Node) api.Typ {
	var kids []api.Typ
	for _, k := range n.Kids {
		kids = append(kids, c.expr(k))
	}
	whole, truth, text := basic(api.TypInt), basic(api.TypBool), basic(api.TypString)
	rules := map[rule]api.Typ{
		{"-", 1, whole}: whole, {"!", 1, truth}: truth,
		{"&&", 2, truth}: truth, {"||", 2, truth}: truth,
		{"==", 2, whole}: truth, {"==", 2, truth}: truth, {"==", 2, text}: truth,
		{"!=", 2, whole}: truth, {"!=", 2, truth}: truth, {"!=", 2, text}: truth,
		{"<", 2, whole}: truth, {"<", 2, text}: truth,
		{"<=", 2, whole}: truth, {"<=", 2, text}: truth,
		{">", 2, whole}: truth, {">", 2, text}: truth,
		{">=", 2, whole}: truth, {">=", 2, text}: truth,
		{"+", 2, whole}: whole, {"+", 2, text}: text,
		{"-", 2, whole}: whole, {"*", 2, whole}: whole, {"/", 2, whole}: whole, {"%", 2, whole}: whole,
	}
	t, ok := rules[rule{n.Text, len(kids), kids[0]}]
	c.must(n, ok && kids[len(kids)-1] == kids[0], api.ErrType)
	return t
}

// declares is the Kind of the declaration that a use means; 0, if it means none.
func (c *checker) declares(u api.Use) int {
	switch u.Kind {
	case api.UseLocal, api.UseTop, api.UseField, api.UseMethod:
		return c.trees[u.File].Nodes[u.Node].Kind
	}
	return 0
}

// declared is the type of the declaration that a use means.
func (c *checker) declared(u api.Use) api.Typ {
	return c.Types[u.File][u.Node]
}

// params are the types of a NodeFunc's params.
func (c *checker) params(u api.Use) []api.Typ {
	var list []api.Typ
	for _, k := range c.trees[u.File].Nodes[u.Node].Kids {
		if c.trees[u.File].Nodes[k].Kind == api.NodeParam {
			list = append(list, c.Types[u.File][k])
		}
	}
	return list
}
