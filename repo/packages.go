package repo

import (
	"iter"
	"slices"

	"shipwright/api"
	"shipwright/scope"
)

// mainName is the name of the packages that are run, and of the function with which a run begins.
const mainName = "main"

// files goes through the files of the language: it tells the number of each, and its folder.
func files(p api.Program) iter.Seq2[int, string] {
	return func(yield func(int, string) bool) {
		for i, f := range p.Repo.Files {
			if folder, ok := scope.Folder(f.Path); ok && !yield(i, folder) {
				return
			}
		}
	}
}

// nodes are a file's; none, if there is no tree of it, as in a program that was not read.
func nodes(p api.Program, file int) []api.Node {
	if file >= len(p.Trees) {
		return nil
	}
	return p.Trees[file].Nodes
}

// packages is which folders each package imports, by its own: rising, each once.
func packages(p api.Program) map[string][]string {
	all := map[string][]string{}
	for file, folder := range files(p) {
		list := all[folder]
		for _, n := range nodes(p, file) {
			if n.Kind == api.NodeImport {
				list = append(list, n.Text)
			}
		}
		slices.Sort(list)
		all[folder] = slices.Compact(list)
	}
	return all
}

// reached goes through the folders to which one comes from that one by imports, one or more of them: each once.
func reached(all map[string][]string, from string) iter.Seq[string] {
	return func(yield func(string) bool) {
		met := map[string]int{}
		ahead := slices.Clone(all[from])
		for len(ahead) > 0 {
			next := ahead[0]
			ahead = ahead[1:]
			met[next]++
			if met[next] > 1 {
				continue
			}
			if !yield(next) {
				return
			}
			ahead = append(ahead, all[next]...)
		}
	}
}

// reaches tells whether one comes from the one folder to the other one by imports.
func reaches(all map[string][]string, from, to string) bool {
	for folder := range reached(all, from) {
		if folder == to {
			return true
		}
	}
	return false
}

// circle is where the first import stands of a package from which one comes back to itself.
func circle(p api.Program) api.Place {
	all := packages(p)
	for file, folder := range files(p) {
		for _, n := range nodes(p, file) {
			if n.Kind == api.NodeImport && reaches(all, folder, folder) {
				return api.Place{Err: api.ErrCircle, File: file, At: n.At}
			}
		}
	}
	return api.Place{}
}

// misfit is where the first main stands that takes or tells something: one that does neither has its block alone.
func misfit(p api.Program) api.Place {
	for file, folder := range files(p) {
		n, ok := begin(nodes(p, file), folder)
		if ok && len(n.Kids) > 1 {
			return api.Place{Err: api.ErrMain, File: file, At: n.At}
		}
	}
	return api.Place{}
}

// begin is the function with which a run of a file's package begins; false, if it is not in that file.
func begin(list []api.Node, folder string) (api.Node, bool) {
	for i, n := range list {
		if scope.Name(folder) == mainName && n.Kind == api.NodeFunc && n.Text == mainName && declares(list, i, api.UseTop) {
			return n, true
		}
	}
	return api.Node{}, false
}

// declares tells whether a node of a file is a declaration that uses of that Kind mean: of a package or of a struct.
func declares(list []api.Node, i, kind int) bool {
	switch list[i].Kind {
	case api.NodeConst, api.NodeStruct:
		return kind == api.UseTop
	case api.NodeVar:
		return kind == api.UseTop && slices.Contains(list[0].Kids, i) // else it is a function's
	case api.NodeField:
		return kind == api.UseField
	case api.NodeFunc:
		if receives(list, i) {
			return kind == api.UseMethod
		}
		return kind == api.UseTop
	}
	return false
}

// receives tells whether a NodeFunc has a NodeRecv: that is its first kid then, which stands right behind it.
func receives(list []api.Node, i int) bool {
	return i+1 < len(list) && list[i+1].Kind == api.NodeRecv
}
