package scope_test

import (
	"regexp"
	"slices"
	"strings"

	"shipwright/api"
	"shipwright/parse"
	"shipwright/tree"
)

// What Read, Resolve and Declared have to tell is said here anew from the chapter's words: for each node by itself, by a look from it at what stands round it.

// ofLanguage are the paths of files of the language: the folder, and what stands behind it.
var ofLanguage = regexp.MustCompile(`(?s)^(.*)/[^/]+\.go$`)

func wantFolder(path string) (string, bool) {
	m := ofLanguage.FindStringSubmatch(path)
	if m == nil {
		return "", false
	}
	return m[1], true
}

func wantName(folder string) string {
	list := strings.Split(folder, "/")
	return list[len(list)-1]
}

func wantShown(s string) bool {
	return s != "" && strings.Contains("ABCDEFGHIJKLMNOPQRSTUVWXYZ", s[:1])
}

// wantRead is what Read tells.
func wantRead(r api.Repo) (api.Program, api.Place) {
	if tree.Check(r) != api.OK {
		return api.Program{}, api.Place{Err: api.ErrRepo}
	}
	p := api.Program{Repo: r, Trees: make([]api.Tree, len(r.Files))}
	for i, f := range r.Files {
		if _, ok := wantFolder(f.Path); !ok {
			continue
		}
		var s api.Spot
		if p.Trees[i], s = parse.Text(f.Text); s.Err != api.OK {
			return api.Program{}, api.Place{Err: s.Err, File: i, At: s.At}
		}
	}
	return p, api.Place{}
}

// look is a node of a program, from which one looks.
type look struct {
	api.Program
	file, at int
}

func (l look) node() api.Node { return l.Trees[l.file].Nodes[l.at] }

func (l look) folder() string {
	s, _ := wantFolder(l.Repo.Files[l.file].Path)
	return s
}

// to is another node of the same file.
func (l look) to(at int) look {
	l.at = at
	return l
}

// up is the node of which this one is a kid, and which of its kids it is; false of the file's.
func (l look) up() (look, int, bool) {
	for i := l.at - 1; i >= 0; i-- {
		if k := slices.Index(l.to(i).node().Kids, l.at); k >= 0 {
			return l.to(i), k, true
		}
	}
	return l, 0, false
}

// parent is the Kind of the node of which this one is a kid.
func (l look) parent() int {
	if up, _, ok := l.up(); ok {
		return up.node().Kind
	}
	return 0
}

// elder are the kids ahead of this one of the same node.
func (l look) elder() []look {
	up, k, _ := l.up()
	var list []look
	for _, i := range up.node().Kids[:k] {
		list = append(list, l.to(i))
	}
	return list
}

// named is the first of those of these Kinds that has a name.
func named(list []look, name string, kinds ...int) (look, bool) {
	i := slices.IndexFunc(list, func(l look) bool {
		return l.node().Text == name && slices.Contains(kinds, l.node().Kind)
	})
	if i < 0 {
		return look{}, false
	}
	return list[i], true
}

func (l look) use(kind int) api.Use { return api.Use{Kind: kind, File: l.file, Node: l.at} }

// declarations are what the packages of a folder declare, in order.
func declarations(p api.Program, folder string) []look {
	var list []look
	for i, f := range p.Repo.Files {
		if d, ok := wantFolder(f.Path); !ok || d != folder {
			continue
		}
		l := look{p, i, 0}
		for _, k := range l.node().Kids {
			one := l.to(k)
			kids := one.node().Kids
			method := len(kids) > 0 && one.to(kids[0]).node().Kind == api.NodeRecv
			if one.node().Kind != api.NodeImport && !method {
				list = append(list, one)
			}
		}
	}
	return list
}

// inPackage is what a name means in a package.
func inPackage(p api.Program, folder, name string) (look, bool) {
	return named(declarations(p, folder), name, api.NodeConst, api.NodeVar, api.NodeStruct, api.NodeFunc)
}

// imports are the file's imports.
func (l look) imports() []look {
	var list []look
	for i, n := range l.Trees[l.file].Nodes {
		if n.Kind == api.NodeImport {
			list = append(list, l.to(i))
		}
	}
	return list
}

// imported is the import that a name means.
func (l look) imported(name string) (look, bool) {
	for _, one := range l.imports() {
		if wantName(one.node().Text) == name {
			return one, true
		}
	}
	return look{}, false
}

// local is what a name means at a node in the functions and blocks round it.
func (l look) local(name string) (look, bool) {
	for up, _, ok := l.up(); ok; up, _, ok = l.up() {
		list, kinds := l.elder(), []int{}
		switch up.node().Kind {
		case api.NodeBlock:
			kinds = []int{api.NodeVar, api.NodeShort}
		case api.NodeFunc:
			kinds = []int{api.NodeRecv, api.NodeParam}
		}
		if one, ok := named(list, name, kinds...); ok {
			return one, true
		}
		l = up
	}
	return look{}, false
}

// builtins are the built-in names, the first one being number 1.
var builtins = []string{"println", "len", "arg", "panic"}

// means is what a name means at a node.
func (l look) means(name string) api.Use {
	if one, ok := l.local(name); ok {
		return one.use(api.UseLocal)
	}
	if one, ok := l.imported(name); ok {
		return one.use(api.UseImport)
	}
	if one, ok := inPackage(l.Program, l.folder(), name); ok {
		return one.use(api.UseTop)
	}
	if i := slices.Index(builtins, name); i >= 0 {
		return api.Use{Kind: api.UseBuiltin, Node: i + 1}
	}
	return api.Use{}
}

// twice tells whether a local or a field has the name of one ahead of it in the same scope.
func (l look) twice() bool {
	list := l.elder()
	if up, _, _ := l.up(); up.node().Kind == api.NodeBlock && up.parent() == api.NodeFunc {
		list = append(list, up.elder()...)
	}
	_, ok := named(list, l.node().Text, api.NodeRecv, api.NodeParam, api.NodeVar, api.NodeShort, api.NodeField)
	return ok
}

// wantNode is what a node means, or what is wrong with it.
func (l look) wantNode() (api.Use, api.Errno) {
	n := l.node()
	top := l.parent() == api.NodeFile
	switch n.Kind {
	case api.NodeFile:
		if n.Text != wantName(l.folder()) {
			return api.Use{}, api.ErrClause
		}
	case api.NodeImport:
		return api.Use{}, l.wantImport()
	case api.NodeRecv, api.NodeParam, api.NodeShort, api.NodeField:
		if l.twice() {
			return api.Use{}, api.ErrTwice
		}
	case api.NodeConst, api.NodeVar, api.NodeStruct, api.NodeFunc:
		if !top && l.twice() {
			return api.Use{}, api.ErrTwice
		}
		list := declarations(l.Program, l.folder())
		own := slices.IndexFunc(list, func(m look) bool { return m.file == l.file && m.at == l.at })
		if own < 0 {
			break
		}
		if _, ok := named(list[:own], n.Text, api.NodeConst, api.NodeVar, api.NodeStruct, api.NodeFunc); top && ok {
			return api.Use{}, api.ErrTwice
		}
	case api.NodeName, api.NodeNamed, api.NodeFar, api.NodeDot:
		return l.wantUse()
	}
	return api.Use{}, api.OK
}

// wantImport is what is wrong with a NodeImport.
func (l look) wantImport() api.Errno {
	folder := l.node().Text
	there := slices.ContainsFunc(l.Repo.Files, func(f api.File) bool {
		d, ok := wantFolder(f.Path)
		return ok && d == folder
	})
	if !there || folder == l.folder() {
		return api.ErrImport
	}
	if one, _ := l.imported(wantName(folder)); one.at != l.at {
		return api.ErrTwice
	}
	if _, ok := inPackage(l.Program, l.folder(), wantName(folder)); ok {
		return api.ErrTwice
	}
	return api.OK
}

// wantUse is what a NodeName, NodeNamed, NodeFar or NodeDot means, or what is wrong with it.
func (l look) wantUse() (api.Use, api.Errno) {
	n := l.node()
	switch n.Kind {
	case api.NodeNamed:
		return wantStruct(inPackage(l.Program, l.folder(), n.Text))
	case api.NodeFar:
		one, ok := l.imported(l.to(n.Kids[0]).node().Text)
		if !ok {
			return api.Use{}, api.ErrUnknown
		}
		if _, err := one.wantShown(n.Text); err != api.OK {
			return api.Use{}, err
		}
		return wantStruct(inPackage(l.Program, one.node().Text, n.Text))
	case api.NodeDot:
		kid := l.to(n.Kids[0])
		u := kid.means(kid.node().Text)
		if kid.node().Kind != api.NodeName || u.Kind != api.UseImport {
			return api.Use{}, api.OK
		}
		return l.to(u.Node).wantShown(n.Text)
	}
	if l.parent() == api.NodeFar {
		return api.Use{}, api.OK
	}
	u := l.means(n.Text)
	if u.Kind == 0 {
		return api.Use{}, api.ErrUnknown
	}
	if u.Kind == api.UseImport && l.parent() != api.NodeDot {
		return api.Use{}, api.ErrAlone
	}
	return u, api.OK
}

// wantStruct is the use of a declaration that must be a struct.
func wantStruct(one look, ok bool) (api.Use, api.Errno) {
	if !ok {
		return api.Use{}, api.ErrUnknown
	}
	if one.node().Kind != api.NodeStruct {
		return api.Use{}, api.ErrKind
	}
	return one.use(api.UseTop), api.OK
}

// wantShown is what a name means in the package of an import.
func (l look) wantShown(name string) (api.Use, api.Errno) {
	one, ok := inPackage(l.Program, l.node().Text, name)
	if !ok {
		return api.Use{}, api.ErrUnknown
	}
	if !wantShown(name) {
		return api.Use{}, api.ErrHidden
	}
	return one.use(api.UseTop), api.OK
}

// wantResolve is what Resolve tells of what Read told.
func wantResolve(p api.Program) ([][]api.Use, api.Place) {
	uses := make([][]api.Use, len(p.Trees))
	for i, x := range p.Trees {
		for j, n := range x.Nodes {
			u, err := look{p, i, j}.wantNode()
			if err != api.OK {
				return nil, api.Place{Err: err, File: i, At: n.At}
			}
			uses[i] = append(uses[i], u)
		}
	}
	return uses, api.Place{}
}
