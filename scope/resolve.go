package scope

import "shipwright/api"

// names is a scope: what each name in it means.
type names map[string]api.Use

// wrong is thrown at the first node that is wrong.
type wrong struct {
	api.Place
}

// resolver goes through a file. Its stack has all scopes round a node, the innermost one last, but for the built-in names.
type resolver struct {
	trees    []api.Tree
	packages map[string]names
	folder   string
	file     int
	nodes    []api.Node // the file's
	own      names      // what the file's package declares
	imports  names
	stack    []names
}

// resolve is what the names of a program mean that is what Read told, or what is wrong first. It is the one face to which all that is wrong comes.
func resolve(p api.Program) (s api.Scopes, place api.Place) {
	defer func() {
		if w, ok := recover().(wrong); ok {
			s, place = api.Scopes{}, w.Place
		}
	}()
	declared := packages(p)
	for i := range p.Trees {
		s.Uses = append(s.Uses, start(p, declared, i).uses())
	}
	return s, place
}

// start is what goes through a file of a program whose packages declare that. Round all of it stand the package's scope and the file's imports, none of which is met yet.
func start(p api.Program, declared map[string]names, file int) *resolver {
	folder, _ := Folder(p.Repo.Files[file].Path)
	r := &resolver{
		trees:    p.Trees,
		packages: declared,
		folder:   folder,
		file:     file,
		nodes:    p.Trees[file].Nodes,
		own:      declared[folder],
		imports:  names{},
	}
	r.stack = []names{r.own, r.imports}
	return r
}

// packages is what each package declares, by its folder: of one name the first declaration.
func packages(p api.Program) map[string]names {
	all := map[string]names{}
	for i, f := range p.Repo.Files {
		folder, ok := Folder(f.Path)
		if !ok {
			continue
		}
		if all[folder] == nil {
			all[folder] = names{}
		}
		nodes := p.Trees[i].Nodes
		for _, k := range nodes[0].Kids {
			name := nodes[k].Text
			if _, twice := all[folder][name]; !twice && top(nodes, k) {
				all[folder][name] = api.Use{Kind: api.UseTop, File: i, Node: k}
			}
		}
	}
	return all
}

// top tells whether the package declares what a kid of a NodeFile is.
func top(nodes []api.Node, i int) bool {
	n := nodes[i]
	switch n.Kind {
	case api.NodeConst, api.NodeVar, api.NodeStruct:
		return true
	case api.NodeFunc:
		return nodes[n.Kids[0]].Kind != api.NodeRecv
	}
	return false
}

// local tells whether a node has its name in the scope round it from behind itself on. A NodeField counts as one: its NodeStruct is a scope, in which nothing is looked for.
func local(n, parent api.Node) bool {
	switch n.Kind {
	case api.NodeRecv, api.NodeParam, api.NodeShort, api.NodeField:
		return true
	}
	return n.Kind == api.NodeVar && parent.Kind != api.NodeFile
}

// opens tells whether a node is a scope: a function's block is its function's.
func opens(n, parent api.Node) bool {
	switch n.Kind {
	case api.NodeFunc, api.NodeStruct:
		return true
	}
	return n.Kind == api.NodeBlock && parent.Kind != api.NodeFunc
}

// uses goes through the file's nodes, in preorder, and tells what each means.
func (r *resolver) uses() []api.Use {
	list := make([]api.Use, len(r.nodes))
	var visit func(i int, parent api.Node)
	visit = func(i int, parent api.Node) {
		n := r.nodes[i]
		list[i] = r.node(i, parent)
		outer := r.stack
		if opens(n, parent) {
			r.stack = append(r.stack, names{})
		}
		for _, k := range n.Kids {
			visit(k, n)
		}
		r.stack = outer
		if local(n, parent) {
			r.inner()[n.Text] = api.Use{Kind: api.UseLocal, File: r.file, Node: i}
		}
	}
	if len(r.nodes) > 0 {
		visit(0, api.Node{})
	}
	return list
}

// node is what a node means, if it means something. It throws what is wrong with it.
func (r *resolver) node(i int, parent api.Node) api.Use {
	n := r.nodes[i]
	switch n.Kind {
	case api.NodeFile:
		r.must(n, n.Text == Name(r.folder), api.ErrClause)
	case api.NodeImport:
		r.imported(i)
	case api.NodeNamed:
		return r.structure(n, r.found(n, r.own[n.Text]))
	case api.NodeFar:
		return r.structure(n, r.far(n, r.imports[r.nodes[n.Kids[0]].Text]))
	case api.NodeName:
		return r.name(n, parent)
	case api.NodeDot:
		return r.dot(n)
	default:
		r.declared(i, parent)
	}
	return api.Use{}
}

// imported puts an import among the file's.
func (r *resolver) imported(i int) {
	n := r.nodes[i]
	_, ok := r.packages[n.Text]
	r.must(n, ok && n.Text != r.folder, api.ErrImport)
	last := Name(n.Text)
	_, ahead := r.imports[last]
	_, taken := r.own[last]
	r.must(n, !ahead && !taken, api.ErrTwice)
	r.imports[last] = api.Use{Kind: api.UseImport, File: r.file, Node: i}
}

// declared asks whether what a node declares, if it does, is there ahead of it.
func (r *resolver) declared(i int, parent api.Node) {
	n := r.nodes[i]
	if local(n, parent) {
		_, ahead := r.inner()[n.Text]
		r.must(n, !ahead, api.ErrTwice)
	} else if top(r.nodes, i) {
		r.must(n, r.own[n.Text] == api.Use{Kind: api.UseTop, File: r.file, Node: i}, api.ErrTwice)
	}
}

// name is what a NodeName means. That of a NodeFar means nothing: it is the NodeFar for which its import was looked for.
func (r *resolver) name(n, parent api.Node) api.Use {
	if parent.Kind == api.NodeFar {
		return api.Use{}
	}
	u := r.found(n, r.look(n.Text))
	r.must(n, u.Kind != api.UseImport || parent.Kind == api.NodeDot, api.ErrAlone)
	return u
}

// dot is what a NodeDot means: something, if its kid is an import's name.
func (r *resolver) dot(n api.Node) api.Use {
	kid := r.nodes[n.Kids[0]]
	if kid.Kind != api.NodeName {
		return api.Use{}
	}
	u := r.look(kid.Text)
	if u.Kind != api.UseImport {
		return api.Use{}
	}
	return r.far(n, u)
}

// far is what a node's name means in the package of an import, which must be there itself.
func (r *resolver) far(n api.Node, imported api.Use) api.Use {
	r.found(n, imported)
	u := r.found(n, r.packages[r.nodes[imported.Node].Text][n.Text])
	r.must(n, Shown(n.Text), api.ErrHidden)
	return u
}

// structure is a use that was found for a type, which must be a struct.
func (r *resolver) structure(n api.Node, u api.Use) api.Use {
	r.must(n, r.trees[u.File].Nodes[u.Node].Kind == api.NodeStruct, api.ErrKind)
	return u
}

// found is a use that was looked for, which must be there.
func (r *resolver) found(n api.Node, u api.Use) api.Use {
	r.must(n, u != api.Use{}, api.ErrUnknown)
	return u
}

// look is what a name means where the stack stands; zero, if nothing.
func (r *resolver) look(name string) api.Use {
	for i := len(r.stack) - 1; i >= 0; i-- {
		if u, ok := r.stack[i][name]; ok {
			return u
		}
	}
	if b := Builtin(name); b != 0 {
		return api.Use{Kind: api.UseBuiltin, Node: b}
	}
	return api.Use{}
}

// must throws an error at a node, unless it is right.
func (r *resolver) must(n api.Node, right bool, err api.Errno) {
	if !right {
		panic(wrong{api.Place{Err: err, File: r.file, At: n.At}})
	}
}

// inner is the innermost scope.
func (r *resolver) inner() names {
	return r.stack[len(r.stack)-1]
}
