package types

import (
	"iter"
	"slices"

	"shipwright/api"
	"shipwright/scope"
)

// wrong is thrown at the first node that is wrong.
type wrong struct {
	api.Place
}

// member is the name of a field or a method, and its struct.
type member struct {
	of   api.Typ
	name string
}

// checker goes through a program whose names mean something. Its Means begin as what scope tells; what points and calls mean comes to them.
type checker struct {
	api.Typed
	trees   []api.Tree
	folders []string // of each file
	members map[member]api.Use
	file    int     // the one that is being gone through
	tells   api.Typ // what the function tells that is being gone through
}

// check is a checker that has gone through all of a program, or what is wrong first. It is the one face to which all that is wrong comes.
func check(p api.Program) (c *checker, place api.Place) {
	defer func() {
		if w, ok := recover().(wrong); ok {
			c, place = nil, w.Place
		}
	}()
	s, place := scope.Resolve(p)
	if place.Err != api.OK {
		return nil, place
	}
	c = start(p, s)
	c.structs()
	c.methods()
	for _, n := range c.all(api.NodeFile) {
		for _, k := range n.Kids {
			c.declaration(k)
		}
	}
	return c, api.Place{}
}

// start is a checker that knows the types which hang on no expression, and all fields.
func start(p api.Program, s api.Scopes) *checker {
	c := &checker{trees: p.Trees, members: map[member]api.Use{}}
	c.Means = s.Uses
	for _, f := range p.Repo.Files {
		folder, _ := scope.Folder(f.Path)
		c.folders = append(c.folders, folder)
	}
	for c.file = range c.trees {
		c.Types = append(c.Types, make([]api.Typ, len(c.nodes())))
		for i, n := range slices.Backward(c.nodes()) { // kids stand behind their node
			c.Types[c.file][i] = c.given(i, n)
		}
	}
	for i, n := range c.all(api.NodeStruct) {
		for _, k := range n.Kids {
			c.members[member{c.structure(i), c.node(k).Text}] = c.use(api.UseField, k)
		}
	}
	return c
}

// structs looks for structs that have themselves in them, and only then for those of too many parts, as the parts of the others have no end.
func (c *checker) structs() {
	for i, n := range c.all(api.NodeStruct) {
		t := c.structure(i)
		c.must(n, !c.holds(t, t, map[api.Typ]int{}), api.ErrCycle)
	}
	for i, n := range c.all(api.NodeStruct) {
		c.must(n, c.parts(c.structure(i)) <= api.MaxParts, api.ErrLarge)
	}
}

// methods puts the methods among the members, which must not have them yet.
func (c *checker) methods() {
	for i, n := range c.all(api.NodeFunc) {
		if c.node(n.Kids[0]).Kind != api.NodeRecv {
			continue
		}
		m := member{c.typ(n.Kids[0]), n.Text}
		_, ahead := c.members[m]
		c.must(n, !ahead, api.ErrTwice)
		c.members[m] = c.use(api.UseMethod, i)
	}
}

// holds tells whether a type has a field of that other one, or one of its fields has, and so on. Those that were met need no second look.
func (c *checker) holds(outer, t api.Typ, met map[api.Typ]int) bool {
	for _, f := range c.fields(outer) {
		if f == t {
			return true
		}
		met[f]++
		if met[f] == 1 && c.holds(f, t, met) {
			return true
		}
	}
	return false
}

// parts is how many parts a type has, counted until they are too many: where each struct holds another one twice, there may be more than anybody can go through.
func (c *checker) parts(t api.Typ) int {
	n := 0
	for _, f := range c.fields(t) {
		n += 1 + c.parts(f)
		if n > api.MaxParts {
			break
		}
	}
	return n
}

// fields are the types of a type's fields; none, if it is no struct.
func (c *checker) fields(t api.Typ) []api.Typ {
	var list []api.Typ
	if t.Kind == api.TypStruct {
		for _, k := range c.trees[t.File].Nodes[t.Node].Kids {
			list = append(list, c.Types[t.File][k])
		}
	}
	return list
}

// given is the type of a type node or a declaration; none of a NodeShort, which hangs on an expression.
func (c *checker) given(i int, n api.Node) api.Typ {
	switch n.Kind {
	case api.NodeBasic:
		return word(n.Text)
	case api.NodeNamed, api.NodeFar:
		u := c.meaning(i)
		return api.Typ{Kind: api.TypStruct, File: u.File, Node: u.Node}
	case api.NodeVar, api.NodeField, api.NodeRecv, api.NodeParam:
		return c.typ(n.Kids[0])
	case api.NodeConst:
		return c.constant(n.Kids[0])
	case api.NodeFunc:
		return c.told(n)
	}
	return api.Typ{}
}

// basic is a type that is no struct's.
func basic(kind int) api.Typ {
	return api.Typ{Kind: kind}
}

// word is the type that has that word.
func word(s string) api.Typ {
	switch s {
	case "int":
		return basic(api.TypInt)
	case "bool":
		return basic(api.TypBool)
	}
	return basic(api.TypString)
}

// constant is the type of a NodeConst's expression: a text, a truth, or a number, perhaps with a minus. Of a text that will be found to be too large, too, where the constant is named ahead of it.
func (c *checker) constant(i int) api.Typ {
	switch c.node(i).Kind {
	case api.NodeText:
		return basic(api.TypString)
	case api.NodeBool:
		return basic(api.TypBool)
	}
	return basic(api.TypInt)
}

// told is what a NodeFunc tells, or none.
func (c *checker) told(n api.Node) api.Typ {
	for _, k := range n.Kids {
		switch c.node(k).Kind {
		case api.NodeBasic, api.NodeNamed, api.NodeFar:
			return c.typ(k)
		}
	}
	return api.Typ{}
}

// all goes through the nodes of a Kind, file by file.
func (c *checker) all(kind int) iter.Seq2[int, api.Node] {
	return func(yield func(int, api.Node) bool) {
		for c.file = range c.trees {
			for i, n := range c.nodes() {
				if n.Kind == kind && !yield(i, n) {
					return
				}
			}
		}
	}
}

// must throws an error at a node, unless it is right.
func (c *checker) must(n api.Node, right bool, err api.Errno) {
	if !right {
		panic(wrong{api.Place{Err: err, File: c.file, At: n.At}})
	}
}

// nodes are the file's.
func (c *checker) nodes() []api.Node {
	return c.trees[c.file].Nodes
}

// node is one of the file's nodes.
func (c *checker) node(i int) api.Node {
	return c.nodes()[i]
}

// typ is the type of one of the file's nodes.
func (c *checker) typ(i int) api.Typ {
	return c.Types[c.file][i]
}

// meaning is what one of the file's nodes means.
func (c *checker) meaning(i int) api.Use {
	return c.Means[c.file][i]
}

// use is a use of one of the file's nodes.
func (c *checker) use(kind, i int) api.Use {
	return api.Use{Kind: kind, File: c.file, Node: i}
}

// structure is the type of one of the file's NodeStructs.
func (c *checker) structure(i int) api.Typ {
	return api.Typ{Kind: api.TypStruct, File: c.file, Node: i}
}
