package repo_test

import (
	"slices"
	"strings"

	"shipwright/api"
	"shipwright/lex"
	"shipwright/scope"
	"shipwright/types"
)

// What the calls have to tell is said here anew from the chapter's words: imports and mains are read from the tokens of each file, and who reaches whom is found for all packages at once. What the layers below tell is taken from them.

// fact is an import of a file, or a NodeFunc main of it without NodeRecv, and where it stands.
type fact struct {
	folder   string // of the file
	file, at int
	imported string
	wrong    bool // a main that takes or tells something
}

// wantFolder is the folder of a file of the language.
func wantFolder(path string) (string, bool) {
	parts := strings.Split(path, "/")
	last := parts[len(parts)-1]
	if len(parts) < 2 || len(last) < 4 || last[len(last)-3:] != ".go" {
		return "", false
	}
	return strings.Join(parts[:len(parts)-1], "/"), true
}

// facts are the imports, and the mains, of a repository, file by file.
func facts(r api.Repo) (imports, mains []fact) {
	for i, f := range r.Files {
		folder, ok := wantFolder(f.Path)
		if !ok {
			continue
		}
		l, _ := lex.Lex(f.Text)
		for k := range l {
			one := fact{folder: folder, file: i}
			if k > 0 && l[k-1].Kind == api.TokWord && l[k-1].Text == "import" {
				one.at, one.imported = l[k].At, strings.Trim(l[k].Text, "\"")
				imports = append(imports, one)
			}
			if k > 0 && l[k-1].Text == "func" && l[k].Text == "main" {
				end := k + 2 + slices.IndexFunc(l[k+2:], func(t api.Token) bool { return t.Text == ")" })
				one.at, one.wrong = l[k].At, end > k+2 || l[end+1].Text != "{"
				mains = append(mains, one)
			}
		}
	}
	mains = slices.DeleteFunc(mains, func(f fact) bool { return f.folder != "main" && !strings.HasSuffix(f.folder, "/main") })
	return imports, mains
}

// wantCheck is what Check has to tell.
func wantCheck(r api.Repo) (api.Whole, api.Place) {
	p, e := scope.Read(r)
	if e.Err != api.OK {
		return api.Whole{}, e
	}
	x, e := types.Check(p)
	if e.Err != api.OK {
		return api.Whole{}, e
	}
	imports, mains := facts(r)
	reach := wantReach(r)
	for _, f := range imports {
		if reach[[2]string{f.folder, f.folder}] > 0 {
			return api.Whole{}, api.Place{Err: api.ErrCircle, File: f.file, At: f.at}
		}
	}
	for _, f := range mains {
		if f.wrong {
			return api.Whole{}, api.Place{Err: api.ErrMain, File: f.file, At: f.at}
		}
	}
	s, _ := scope.Resolve(p)
	return api.Whole{Program: p, Typed: x, Scopes: s}, api.Place{}
}

// rising are texts in order, each once.
func rising(list []string) []string {
	slices.Sort(list)
	return slices.Compact(list)
}

// wantMains is what Mains has to tell.
func wantMains(r api.Repo) []string {
	var list []string
	_, mains := facts(r)
	for _, f := range mains {
		list = append(list, f.folder)
	}
	return rising(list)
}

// wantPackages is what Packages has to tell.
func wantPackages(r api.Repo) []string {
	var list []string
	for _, f := range r.Files {
		if folder, ok := wantFolder(f.Path); ok {
			list = append(list, folder)
		}
	}
	return rising(list)
}

// wantImports is what Imports has to tell.
func wantImports(r api.Repo, folder string) []string {
	var list []string
	imports, _ := facts(r)
	for _, f := range imports {
		if f.folder == folder {
			list = append(list, f.imported)
		}
	}
	return rising(list)
}

// wantReach is from which package one comes to which: over no package between, and then over one more after the other.
func wantReach(r api.Repo) map[[2]string]int {
	reach := map[[2]string]int{}
	imports, _ := facts(r)
	for _, f := range imports {
		reach[[2]string{f.folder, f.imported}] = 1
	}
	all := wantPackages(r)
	for _, over := range all {
		for _, from := range all {
			for _, to := range all {
				if reach[[2]string{from, over}]*reach[[2]string{over, to}] > 0 {
					reach[[2]string{from, to}] = 1
				}
			}
		}
	}
	return reach
}

// wantOf is what Of has to tell of all uses that mean something.
func wantOf(p api.Program) map[api.Use][2]string {
	all := map[api.Use][2]string{}
	for i, x := range p.Trees {
		folder, ok := wantFolder(p.Repo.Files[i].Path)
		if !ok {
			continue
		}
		for _, k := range x.Nodes[0].Kids {
			n := x.Nodes[k]
			if n.Kind == api.NodeImport {
				continue
			}
			kind := api.UseTop
			for _, sub := range n.Kids {
				switch x.Nodes[sub].Kind {
				case api.NodeRecv:
					kind = api.UseMethod
				case api.NodeField:
					all[api.Use{Kind: api.UseField, File: i, Node: sub}] = [2]string{folder, x.Nodes[sub].Text}
				}
			}
			all[api.Use{Kind: kind, File: i, Node: k}] = [2]string{folder, n.Text}
		}
	}
	return all
}
