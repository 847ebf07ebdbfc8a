package repo_test

import (
	"math"
	"testing"

	"shipwright/api"
	"shipwright/repo"
)

// several is a whole of packages of one and of several files, of folders within folders, and of files that are not the language's. Its paths rise otherwise than its folders: a-b ahead of a.
func several(t *testing.T) api.Whole {
	return right(t,
		"README", "import \"c\"",
		"a-b/main/x.go", "package main; import \"a\"; func main() { println(a.F()) }",
		"a/b/x.go", "package b; import \"c\"; import \"main/e\"",
		"a/m.go", "package a; import \"a/b\"; func F() int { return 1 }",
		"a/main/main/x.go", "package main; func f() { }; func main() { }",
		"a/main/x.go", "package main; import \"d\"; type T struct { }; func (r T) main() { }",
		"a/x.go", "package a; import \"c\"; import \"a/b\"; func main(x int) { }",
		"a/y.md", "package a; import \"d\"",
		"a/z.go", "package a",
		"c.go", "package c; import \"d\"",
		"c/x.go", "package c",
		"d/x.go", "package d; import \"a\"",
		"main/e/x.go", "package e; func main() { }",
		"main/x.go", "package main; func main() { }",
		"main/y.go", "package main; import \"c\"; import \"a\"",
		"z/m.txt", "package z")
}

// P15.2: the mains, the packages, and what they import, rising, each once.
func TestPackages(t *testing.T) {
	w := several(t)
	list(t, "mains", repo.Mains(w), "a-b/main a/main/main main")
	list(t, "packages", repo.Packages(w), "a a-b/main a/b a/main a/main/main c d main main/e")
	for folder, want := range map[string]string{
		"a": "a/b c", "a-b/main": "a", "a/b": "c main/e", "a/main": "d", "a/main/main": "", "c": "", "d": "a", "main": "a c", "main/e": "",
		// No packages.
		"": "", "a-b": "", "z": "", "a/": "", "/a": "", "a/x.go": "", "A": "", "b": "", "a/b/x": "", "README": "", "a\x00": "", " a": "",
	} {
		list(t, folder, repo.Imports(w, folder), want)
	}
}

// P15.3: from which package one comes to which, by one import or more.
func TestReaches(t *testing.T) {
	w := several(t)
	for from, want := range map[string][]string{
		"a":           {"a/b", "c", "main/e"},
		"a-b/main":    {"a", "a/b", "c", "main/e"},
		"a/b":         {"c", "main/e"},
		"a/main":      {"d", "a", "a/b", "c", "main/e"},
		"a/main/main": nil,
		"c":           nil,
		"d":           {"a", "a/b", "c", "main/e"},
		"main":        {"a", "a/b", "c", "main/e"},
		"main/e":      nil,
		"":            nil,
		"z":           nil,
		"a/":          nil,
	} {
		reached := map[string]bool{}
		for _, to := range want {
			reached[to] = true
		}
		for _, to := range append(repo.Packages(w), "", "z", "a-b", "a/", "b", "x") {
			if is := repo.Reaches(w, from, to); is != reached[to] {
				t.Errorf("Reaches(%q, %q): %t", from, to, is)
			}
		}
	}
}

// P15.2, P15.3: a Whole without files has nothing, whatever else stands in it.
func TestNoFiles(t *testing.T) {
	full := several(t)
	empty, _ := repo.Check(api.Repo{Files: []api.File{}})
	other, e := repo.Check(made("README", "package a", "main/.go", "package main; func main() { }", "x.go", "package x; import \"a\"; func main(x int) { }"))
	if e != (api.Place{}) {
		t.Errorf("Check of files that are not the language's: %v", e)
	}
	rest := full
	rest.Program.Repo = api.Repo{}
	for _, w := range []api.Whole{{}, empty, other, rest} {
		if repo.Mains(w) != nil || repo.Packages(w) != nil {
			t.Errorf("mains %q, packages %q", repo.Mains(w), repo.Packages(w))
		}
		for _, from := range append(repo.Packages(full), "") {
			if repo.Imports(w, from) != nil {
				t.Errorf("%q imports %q", from, repo.Imports(w, from))
			}
			for _, to := range append(repo.Packages(full), "") {
				if repo.Reaches(w, from, to) {
					t.Errorf("%q reaches %q", from, to)
				}
			}
		}
		for file := range 16 {
			for node := range 16 {
				for kind := range 8 {
					if d, s := repo.Of(w, api.Use{Kind: kind, File: file, Node: node}); d != "" || s != "" {
						t.Errorf("Of(%d, %d, %d): %q, %q", kind, file, node, d, s)
					}
				}
			}
		}
	}
}

// P15.3: the folder and the name of each declaration, said by hand; of all other Kinds, files and nodes nothing.
func TestOf(t *testing.T) {
	w := right(t,
		"a.go", "package a; const k = 1",
		"a/b/x.go", "package b; import \"c\"; const K = 1; var V c.T; type T struct { x int; y c.T }; func F(p int, q bool) int { var v int = p; s := v; return s }; func (r T) M(p int) int { var w int; return p }",
		"a/x.md", "package a; const k = 1",
		"c/x.go", "package c; type T struct { }; func _() { }; func (r T) _() { }; type S struct { _ int; T T }; var _1 int = k; const k = 2; type E struct { }")
	want := map[api.Use][2]string{
		{Kind: api.UseTop, File: 1, Node: 2}:     {"a/b", "K"},
		{Kind: api.UseTop, File: 1, Node: 4}:     {"a/b", "V"},
		{Kind: api.UseTop, File: 1, Node: 7}:     {"a/b", "T"},
		{Kind: api.UseField, File: 1, Node: 8}:   {"a/b", "x"},
		{Kind: api.UseField, File: 1, Node: 10}:  {"a/b", "y"},
		{Kind: api.UseTop, File: 1, Node: 13}:    {"a/b", "F"},
		{Kind: api.UseMethod, File: 1, Node: 27}: {"a/b", "M"},
		{Kind: api.UseTop, File: 3, Node: 1}:     {"c", "T"},
		{Kind: api.UseTop, File: 3, Node: 2}:     {"c", "_"},
		{Kind: api.UseMethod, File: 3, Node: 4}:  {"c", "_"},
		{Kind: api.UseTop, File: 3, Node: 8}:     {"c", "S"},
		{Kind: api.UseField, File: 3, Node: 9}:   {"c", "_"},
		{Kind: api.UseField, File: 3, Node: 11}:  {"c", "T"},
		{Kind: api.UseTop, File: 3, Node: 13}:    {"c", "_1"},
		{Kind: api.UseTop, File: 3, Node: 16}:    {"c", "k"},
		{Kind: api.UseTop, File: 3, Node: 18}:    {"c", "E"},
	}
	met := 0
	for _, file := range around(5) {
		for _, node := range around(50) {
			for _, kind := range around(8) {
				u := api.Use{Kind: kind, File: file, Node: node}
				one, ok := want[u]
				if ok {
					met++
				}
				if folder, name := repo.Of(w, u); folder != one[0] || name != one[1] {
					t.Errorf("Of(%v): %q, %q, want %q", u, folder, name, one)
				}
			}
		}
	}
	if met != len(want) {
		t.Errorf("%d of %d declarations were met", met, len(want))
	}
}

// around are numbers from nought on, and those that are far too small or too great.
func around(n int) []int {
	list := []int{math.MinInt, math.MinInt + 1, -1 << 32, -n, -2, -1}
	for i := range n {
		list = append(list, i)
	}
	return append(list, 1<<16, 1<<31, 1<<32, 1<<32+1, math.MaxInt)
}

// R1: wholes that Check would not tell: no call panics, and each ends.
func TestAnyWhole(t *testing.T) {
	full := several(t)
	ring := full
	ring.Program.Repo = made("a/x.go", "", "b/x.go", "", "c/x.go", "", "main/x.go", "")
	imports := func(s string) api.Tree {
		return api.Tree{Nodes: []api.Node{{Kind: api.NodeFile, Kids: []int{1}}, {Kind: api.NodeImport, Text: s}}}
	}
	ring.Program.Trees = []api.Tree{imports("b"), imports("a"), imports("c"), imports("q")}
	if !repo.Reaches(ring, "a", "a") || !repo.Reaches(ring, "c", "c") || repo.Reaches(ring, "a", "c") || repo.Reaches(ring, "main", "main") {
		t.Error("Reaches of a circle")
	}
	wholes := []api.Whole{full, ring}
	for _, trees := range [][]api.Tree{nil, {{}}, full.Program.Trees[:3], append(full.Program.Trees, full.Program.Trees...)} {
		w := full
		w.Program.Trees = trees
		wholes = append(wholes, w)
	}
	for kind := -1; kind <= api.NodeBinary+1; kind++ {
		for _, kids := range [][]int{nil, {0}, {1}, {-1, 7, math.MaxInt, math.MinInt}} {
			one := api.Node{Kind: kind, Text: "main", Kids: kids, At: -1}
			w := full
			w.Program.Repo = made("", "", "/main/.go", "", "main/x.go", "")
			w.Program.Trees = []api.Tree{{Nodes: []api.Node{one}}, {Nodes: []api.Node{one}}, {Nodes: []api.Node{one, one}}, {}}
			wholes = append(wholes, w)
		}
	}
	for _, w := range wholes {
		w.Scopes, w.Typed = api.Scopes{}, api.Typed{}
		repo.Mains(w)
		for _, from := range append(repo.Packages(w), "", "x", "main") {
			for _, to := range append(repo.Imports(w, from), from, "", "main") {
				repo.Reaches(w, from, to)
			}
		}
		for _, file := range around(20) {
			for _, node := range around(20) {
				for kind := range 8 {
					repo.Of(w, api.Use{Kind: kind, File: file, Node: node})
				}
			}
		}
	}
}
