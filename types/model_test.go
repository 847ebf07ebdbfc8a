package types_test

import (
	"slices"
	"strings"

	"shipwright/api"
	"shipwright/scope"
)

// What Check, Fields, Method and Result have to tell is said here anew from the chapter's words: for each node by itself, by a look from it at what stands beneath and round it. What names mean is taken from scope.

// world is a program, what its names mean, and what was found out of its expressions.
type world struct {
	api.Program
	uses  [][]api.Use
	found map[[2]int]verdict
}

// verdict is of an expression whose kids are right: its type, what it means, or what is wrong with itself.
type verdict struct {
	typ  api.Typ
	use  api.Use
	err  api.Errno
	puts bool // something can be put into it
}

// look is a node of a world, from which one looks.
type look struct {
	*world
	file, at int
}

func (l look) node() api.Node { return l.Trees[l.file].Nodes[l.at] }

func (l look) kind() int { return l.node().Kind }

// to is another node of the same file.
func (l look) to(at int) look { return look{l.world, l.file, at} }

// meant is the node that a use means.
func (l look) meant(u api.Use) look { return look{l.world, u.File, u.Node} }

func (l look) use(kind int) api.Use { return api.Use{Kind: kind, File: l.file, Node: l.at} }

func (l look) folder() string {
	path := l.Repo.Files[l.file].Path
	return path[:strings.LastIndex(path, "/")]
}

// kids are the node's kids of these Kinds; all, if none is named.
func (l look) kids(kinds ...int) []look {
	var list []look
	for _, k := range l.node().Kids {
		if one := l.to(k); len(kinds) == 0 || slices.Contains(kinds, one.kind()) {
			list = append(list, one)
		}
	}
	return list
}

// up is the node of which this one is a kid, and which of its kids it is; false of the file's.
func (l look) up() (look, int, bool) {
	for i := l.at - 1; i >= 0; i-- {
		if k := slices.Index(l.to(i).node().Kids, l.at); k >= 0 {
			return l.to(i), k, true
		}
	}
	return l, 0, false
}

// parent is the Kind of the node of which this one is a kid.
func (l look) parent() int {
	if up, _, ok := l.up(); ok {
		return up.kind()
	}
	return 0
}

// isCalled tells whether the node is what a NodeCall calls.
func (l look) isCalled() bool {
	up, k, ok := l.up()
	return ok && k == 0 && up.kind() == api.NodeCall
}

// ofImport tells whether the node is a NodeDot whose kid means an import.
func (l look) ofImport() bool {
	if l.kind() != api.NodeDot {
		return false
	}
	kid := l.kids()[0]
	return l.uses[kid.file][kid.at].Kind == api.UseImport
}

// nodes are all nodes, file by file, of these Kinds.
func (w *world) nodes(kinds ...int) []look {
	var list []look
	for i, x := range w.Trees {
		for j, n := range x.Nodes {
			if len(kinds) == 0 || slices.Contains(kinds, n.Kind) {
				list = append(list, look{w, i, j})
			}
		}
	}
	return list
}

var (
	typInt    = api.Typ{Kind: 1}
	typBool   = api.Typ{Kind: 2}
	typString = api.Typ{Kind: 3}
)

// typed are the Kinds of type nodes.
var typed = []int{api.NodeBasic, api.NodeNamed, api.NodeFar}

// typ is the type of a type node, a declaration or an expression; none of all others.
func (l look) typ() api.Typ {
	switch l.kind() {
	case api.NodeBasic:
		return map[string]api.Typ{"int": typInt, "bool": typBool, "string": typString}[l.node().Text]
	case api.NodeNamed, api.NodeFar:
		u := l.uses[l.file][l.at]
		return api.Typ{Kind: 4, File: u.File, Node: u.Node}
	case api.NodeVar, api.NodeField, api.NodeRecv, api.NodeParam, api.NodeFunc:
		for _, one := range l.kids(typed...) {
			return one.typ()
		}
		return api.Typ{}
	case api.NodeConst, api.NodeShort:
		return l.kids()[0].verdict().typ
	}
	if !isExpression(l.kind()) || l.parent() == api.NodeFar || l.isCalled() || l.uses[l.file][l.at].Kind == api.UseImport {
		return api.Typ{}
	}
	return l.verdict().typ
}

// structure is the NodeStruct of a type.
func (w *world) structure(t api.Typ) (look, bool) {
	return look{w, t.File, t.Node}, t.Kind == 4
}

// fields are the NodeFields of a type.
func (w *world) fields(t api.Typ) []look {
	if l, ok := w.structure(t); ok {
		return l.kids()
	}
	return nil
}

// methods are the methods of a type, in order.
func (w *world) methods(t api.Typ) []look {
	var list []look
	for _, f := range w.nodes(api.NodeFunc) {
		for _, r := range f.kids(api.NodeRecv) {
			if r.typ() == t {
				list = append(list, f)
			}
		}
	}
	return list
}

// named is the first of these that has a name.
func named(list []look, name string) (look, bool) {
	i := slices.IndexFunc(list, func(l look) bool { return l.node().Text == name })
	if i < 0 {
		return look{}, false
	}
	return list[i], true
}

// verdict is of an expression whose kids are right, but for one that is called.
func (l look) verdict() verdict {
	key := [2]int{l.file, l.at}
	v, ok := l.found[key]
	if !ok {
		v = l.judge()
		l.found[key] = v
	}
	return v
}

func (l look) judge() verdict {
	switch n := l.node(); n.Kind {
	case api.NodeInt:
		return verdict{typ: typInt}
	case api.NodeBool:
		return verdict{typ: typBool}
	case api.NodeText:
		if len(n.Text) > 1024 {
			return verdict{typ: typString, err: api.ErrLarge}
		}
		return verdict{typ: typString}
	case api.NodeName:
		return l.value(l.uses[l.file][l.at])
	case api.NodeDot:
		if l.ofImport() {
			return l.value(l.uses[l.file][l.at])
		}
		return l.behind(l.kids()[0].verdict())
	case api.NodeCall:
		return l.calls()
	}
	return l.sign()
}

// value is of a name that means a declaration, or a built-in name.
func (l look) value(u api.Use) verdict {
	if u.Kind == api.UseBuiltin {
		return verdict{use: u, err: api.ErrValue}
	}
	one := l.meant(u)
	switch one.kind() {
	case api.NodeConst:
		return verdict{typ: one.typ(), use: u}
	case api.NodeVar, api.NodeRecv, api.NodeParam, api.NodeShort:
		return verdict{typ: one.typ(), use: u, puts: true}
	}
	return verdict{use: u, err: api.ErrValue}
}

// behind is of a name behind a point that stands behind that.
func (l look) behind(kid verdict) verdict {
	name := l.node().Text
	field, isField := named(l.fields(kid.typ), name)
	method, isMethod := named(l.methods(kid.typ), name)
	s, ok := l.structure(kid.typ)
	switch {
	case !ok || !isField && !isMethod:
		return verdict{err: api.ErrField}
	case s.folder() != l.folder() && !strings.Contains("ABCDEFGHIJKLMNOPQRSTUVWXYZ", name[:1]):
		return verdict{err: api.ErrHidden}
	case isMethod:
		return verdict{use: method.use(6), err: api.ErrValue}
	}
	return verdict{typ: field.typ(), use: field.use(5), puts: kid.puts}
}

// calls is of a NodeCall.
func (l look) calls() verdict {
	list := l.kids()
	first := list[0]
	v := verdict{err: api.ErrCall}
	if first.kind() == api.NodeName || first.kind() == api.NodeDot {
		v.use = first.verdict().use
	}
	takes, tells := l.takes(v.use)
	if takes == nil || len(takes) != len(list)-1 {
		return v
	}
	v.err = api.OK
	v.typ = tells
	for k, one := range list[1:] {
		if t := one.verdict().typ; !slices.Contains(takes[k], t) {
			v.err = api.ErrType
		}
	}
	return v
}

// takes is what that can be handed which a use means, and what it tells; nil, if it can't be called.
func (l look) takes(u api.Use) ([][]api.Typ, api.Typ) {
	switch u {
	case api.Use{}:
		return nil, api.Typ{}
	case api.Use{Kind: 4, Node: 1}:
		return [][]api.Typ{{typInt, typBool, typString}}, api.Typ{}
	case api.Use{Kind: 4, Node: 2}:
		return [][]api.Typ{{typString}}, typInt
	case api.Use{Kind: 4, Node: 3}:
		return [][]api.Typ{{typInt}}, typInt
	case api.Use{Kind: 4, Node: 4}:
		return [][]api.Typ{{typString}}, api.Typ{}
	}
	f := l.meant(u)
	if f.kind() != api.NodeFunc {
		return nil, api.Typ{}
	}
	list := [][]api.Typ{}
	for _, p := range f.kids(api.NodeParam) {
		list = append(list, []api.Typ{p.typ()})
	}
	return list, f.typ()
}

// signs are what stands between two expressions: the signs, the types that both may have, and the type of the whole; none, if it is the kids'.
var signs = []struct {
	signs string
	both  []api.Typ
	is    api.Typ
}{
	{" && || ", []api.Typ{typBool}, typBool},
	{" == != ", []api.Typ{typInt, typBool, typString}, typBool},
	{" < <= > >= ", []api.Typ{typInt, typString}, typBool},
	{" + ", []api.Typ{typInt, typString}, api.Typ{}},
	{" - * / % ", []api.Typ{typInt}, typInt},
}

// sign is of a NodeUnary or NodeBinary.
func (l look) sign() verdict {
	n, list := l.node(), l.kids()
	first := list[0].verdict().typ
	if n.Kind == api.NodeUnary {
		if n.Text == "-" && first == typInt || n.Text == "!" && first == typBool {
			return verdict{typ: first}
		}
		return verdict{err: api.ErrType}
	}
	for _, s := range signs {
		if !strings.Contains(s.signs, " "+n.Text+" ") || !slices.Contains(s.both, first) || first != list[1].verdict().typ {
			continue
		}
		if s.is == (api.Typ{}) {
			return verdict{typ: first}
		}
		return verdict{typ: s.is}
	}
	return verdict{err: api.ErrType}
}

// cycle tells whether a NodeStruct has itself in it: all types in it are put together, till there is no new one.
func (l look) cycle() bool {
	own := api.Typ{Kind: 4, File: l.file, Node: l.at}
	list := []api.Typ{own}
	for i := 0; i < len(list); i++ {
		for _, f := range l.fields(list[i]) {
			t := f.typ()
			if t == own {
				return true
			}
			if !slices.Contains(list, t) {
				list = append(list, t)
			}
		}
	}
	return false
}

// parts is how many parts a type has, but never more than a thousand; known are those that were counted already.
func (w *world) parts(t api.Typ, known map[api.Typ]int) int {
	if n, ok := known[t]; ok {
		return n
	}
	n := 0
	for _, f := range w.fields(t) {
		n = min(n+1+w.parts(f.typ(), known), 1000)
	}
	known[t] = n
	return n
}

// wantMethod is what is wrong with a NodeFunc that has a NodeRecv.
func (l look) wantMethod() api.Errno {
	for _, r := range l.kids(api.NodeRecv) {
		_, field := named(l.fields(r.typ()), l.node().Text)
		one, _ := named(l.methods(r.typ()), l.node().Text)
		if field || one != l {
			return api.ErrTwice
		}
	}
	return api.OK
}

// step is a node whose turn comes: as a node of a variable's expression that may not start so, or as itself; as itself but for ErrValue, if it is called.
type step struct {
	look
	start bool
}

// steps are all of a declaration, in order.
func (l look) steps() []step {
	var list []step
	if l.kind() == api.NodeVar && l.parent() == api.NodeFile {
		for _, one := range l.kids()[1:] {
			list = append(list, one.starts()...)
		}
	}
	switch {
	case l.kind() == api.NodeFar || l.ofImport():
	case l.kind() == api.NodeCall:
		first := l.kids()[0]
		if first.kind() == api.NodeDot && !first.ofImport() {
			list = append(list, first.steps()...)
		}
		for _, one := range l.kids()[1:] {
			list = append(list, one.steps()...)
		}
	default:
		for _, one := range l.kids() {
			list = append(list, one.steps()...)
		}
	}
	return append(list, step{look: l})
}

// starts are a node and all beneath it, in preorder.
func (l look) starts() []step {
	list := []step{{l, true}}
	for _, one := range l.kids() {
		list = append(list, one.starts()...)
	}
	return list
}

// wrong is what is wrong at a step.
func (s step) wrong() api.Errno {
	if s.start {
		return s.wantStart()
	}
	if isExpression(s.kind()) {
		err := s.verdict().err
		if err == api.ErrValue && s.isCalled() {
			return api.OK
		}
		return err
	}
	return s.wantNode()
}

// wantStart is what is wrong with a node of a variable's expression that can't stand there.
func (l look) wantStart() api.Errno {
	n, u := l.node(), l.uses[l.file][l.at]
	ok := true
	switch n.Kind {
	case api.NodeCall:
		ok = false
	case api.NodeBinary:
		ok = n.Text != "+" && n.Text != "/" && n.Text != "%"
	case api.NodeName, api.NodeDot:
		ok = u.Kind == api.UseImport || u.Kind == api.UseTop && l.meant(u).kind() == api.NodeConst
	}
	if ok {
		return api.OK
	}
	return api.ErrStart
}

// wantNode is what is wrong with a node that is no expression.
func (l look) wantNode() api.Errno {
	list := l.kids()
	handed := func(k int) api.Typ { return list[k].verdict().typ }
	told := func(ok bool, err api.Errno) api.Errno {
		if ok {
			return api.OK
		}
		return err
	}
	switch l.kind() {
	case api.NodeVar:
		return told(len(list) == 1 || handed(1) == l.typ(), api.ErrType)
	case api.NodeShort:
		return told(handed(0).Kind != 0, api.ErrType)
	case api.NodeAssign:
		if !list[0].verdict().puts {
			return api.ErrAssign
		}
		return told(handed(0) == handed(1), api.ErrType)
	case api.NodeIf, api.NodeFor:
		return told(handed(0) == typBool, api.ErrType)
	case api.NodeReturn:
		f := l
		for f.kind() != api.NodeFunc {
			f, _, _ = f.up()
		}
		if len(list) == 0 {
			return told(f.typ().Kind == 0, api.ErrReturn)
		}
		return told(f.typ().Kind != 0 && f.typ() == handed(0), api.ErrReturn)
	case api.NodeExpr:
		return told(list[0].kind() == api.NodeCall, api.ErrCall)
	case api.NodeFunc:
		return told(l.typ().Kind == 0 || list[len(list)-1].ends(), api.ErrReturn)
	}
	return api.OK
}

// ends tells whether a statement ends.
func (l look) ends() bool {
	list := l.kids()
	switch l.kind() {
	case api.NodeReturn:
		return true
	case api.NodeBlock:
		return len(list) > 0 && list[len(list)-1].ends()
	case api.NodeIf:
		return len(list) == 3 && list[1].ends() && list[2].ends()
	}
	return false
}

// place is that of a node.
func (l look) place(err api.Errno) api.Place {
	return api.Place{Err: err, File: l.file, At: l.node().At}
}

// wantPlace is what is wrong first with a program whose names mean something.
func (w *world) wantPlace() api.Place {
	for _, l := range w.nodes(api.NodeStruct) {
		if l.cycle() {
			return l.place(api.ErrCycle)
		}
	}
	known := map[api.Typ]int{}
	for _, l := range w.nodes(api.NodeStruct) {
		if w.parts(api.Typ{Kind: 4, File: l.file, Node: l.at}, known) > 256 {
			return l.place(api.ErrLarge)
		}
	}
	for _, l := range w.nodes(api.NodeFunc) {
		if err := l.wantMethod(); err != api.OK {
			return l.place(err)
		}
	}
	for _, f := range w.nodes(api.NodeFile) {
		for _, d := range f.kids() {
			for _, s := range d.steps() {
				if err := s.wrong(); err != api.OK {
					return s.place(err)
				}
			}
		}
	}
	return api.Place{}
}

// wantMeans is what a node of a program means that is right.
func (l look) wantMeans() api.Use {
	switch {
	case l.kind() == api.NodeCall, l.kind() == api.NodeDot && !l.ofImport():
		return l.verdict().use
	}
	return l.uses[l.file][l.at]
}

// wantCheck is what Check tells of what Read told.
func wantCheck(p api.Program) (api.Typed, api.Place) {
	s, e := scope.Resolve(p)
	if e != (api.Place{}) {
		return api.Typed{}, e
	}
	w := &world{p, s.Uses, map[[2]int]verdict{}}
	if e := w.wantPlace(); e != (api.Place{}) {
		return api.Typed{}, e
	}
	x := api.Typed{Types: make([][]api.Typ, len(p.Trees)), Means: make([][]api.Use, len(p.Trees))}
	for _, l := range w.nodes() {
		x.Types[l.file] = append(x.Types[l.file], l.typ())
		x.Means[l.file] = append(x.Means[l.file], l.wantMeans())
	}
	return x, api.Place{}
}
