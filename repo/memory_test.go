package repo_test

import (
	"fmt"
	"slices"
	"testing"

	"shipwright/api"
	"shipwright/repo"
)

// texts are a repository that is right, and has something of everything.
func texts() api.Repo {
	return made(
		"README", "none",
		"a/x.go", "package a; import \"b\"; import \"c\"; const K = 1; var V b.T; func F(x int) b.T { var y b.T; return y }",
		"a/y.go", "package a; import \"c\"; func f() int { return K + c.K }",
		"b/x.go", "package b; import \"c\"; type T struct { n int }; func (r T) Get(x int) int { return r.n + x + c.K }",
		"c/x.go", "package c; const K = 2",
		"main/x.go", "package main; import \"a\"; func main() { println(a.F(arg(0)).Get(a.K)) }")
}

// answers is what the calls tell of a whole.
func answers(w api.Whole) string {
	s := fmt.Sprintf("%q %q", repo.Mains(w), repo.Packages(w))
	for _, folder := range repo.Packages(w) {
		s += fmt.Sprintf(" %q", repo.Imports(w, folder))
		for _, to := range repo.Packages(w) {
			s += fmt.Sprintf(" %t", repo.Reaches(w, folder, to))
		}
	}
	for file, x := range w.Program.Trees {
		for node := range x.Nodes {
			for kind := range 8 {
				folder, name := repo.Of(w, api.Use{Kind: kind, File: file, Node: node})
				s += " " + folder + " " + name
			}
		}
	}
	return s
}

// roomy is a list with something behind its end, which nobody may touch; all of it is put among the rooms.
func roomy[T any](rooms *[]func() string, list []T, behind T) []T {
	more := append(slices.Clone(list), behind, behind)
	*rooms = append(*rooms, func() string { return fmt.Sprint(more) })
	return more[:len(list)]
}

// looked is what all rooms hold.
func looked(rooms []func() string) string {
	var s string
	for _, room := range rooms {
		s += room()
	}
	return s
}

// R3: Check changes nothing of what it is handed, the room behind the list's end neither, and keeps nothing of it.
func TestHanded(t *testing.T) {
	for _, wrong := range append(wrongs(), nil, []string{"zz", "", "zz/x.go", ""}) {
		var rooms []func() string
		r := api.Repo{Files: roomy(&rooms, append(texts().Files, made(wrong...).Files...), api.File{Path: "room"})}
		before := looked(rooms)
		w, e := repo.Check(r)
		if looked(rooms) != before {
			t.Errorf("Check has changed %q", r.Files)
		}
		clear(r.Files)
		if want, place := wantCheck(texts()); wrong == nil && (e != place || !sameWholes(w, want)) {
			t.Errorf("what was handed in was kept: %v", w)
		}
	}
}

// R3: the other calls change nothing of a whole, the room behind its lists neither.
func TestHandedWhole(t *testing.T) {
	w, e := check(t, texts())
	if e != (api.Place{}) {
		t.Fatal(e)
	}
	want := answers(w)
	var rooms []func() string
	w.Program.Repo.Files = roomy(&rooms, w.Program.Repo.Files, api.File{Path: "room/x.go"})
	for i := range w.Program.Trees {
		x := &w.Program.Trees[i]
		for j := range x.Nodes {
			x.Nodes[j].Kids = roomy(&rooms, x.Nodes[j].Kids, -7)
		}
		x.Nodes = roomy(&rooms, x.Nodes, api.Node{Kind: api.NodeImport, Text: "room"})
		w.Scopes.Uses[i] = roomy(&rooms, w.Scopes.Uses[i], api.Use{Kind: 9})
		w.Typed.Means[i] = roomy(&rooms, w.Typed.Means[i], api.Use{Kind: 9})
		w.Typed.Types[i] = roomy(&rooms, w.Typed.Types[i], api.Typ{Kind: 9})
	}
	w.Program.Trees = roomy(&rooms, w.Program.Trees, api.Tree{Nodes: []api.Node{{Kind: api.NodeImport, Text: "room"}}})
	before := looked(rooms)
	if got := answers(w); got != want || looked(rooms) != before {
		t.Errorf("%s, want %s", got, want)
	}
}

// R3: lists of one answer share nothing with one another.
func TestOneAnswer(t *testing.T) {
	want, _ := check(t, texts())
	w, _ := repo.Check(texts())
	for i := range w.Typed.Means {
		_ = append(w.Typed.Means[i], api.Use{Kind: 9}, api.Use{Kind: 9})
		_ = append(w.Typed.Types[i], api.Typ{Kind: 9}, api.Typ{Kind: 9})
		clear(w.Typed.Means[i])
		clear(w.Typed.Types[i])
	}
	if w.Typed = want.Typed; !sameWholes(w, want) {
		t.Error("the types share memory with the scopes or the program")
	}
	w, _ = repo.Check(texts())
	for i := range w.Scopes.Uses {
		_ = append(w.Scopes.Uses[i], api.Use{Kind: 9}, api.Use{Kind: 9})
		clear(w.Scopes.Uses[i])
	}
	if w.Scopes = want.Scopes; !sameWholes(w, want) {
		t.Error("the scopes share memory with the types or the program")
	}
	w, _ = repo.Check(texts())
	for i := range w.Program.Trees {
		clear(w.Program.Trees[i].Nodes)
	}
	clear(w.Program.Trees)
	clear(w.Program.Repo.Files)
	if w.Program = want.Program; !sameWholes(w, want) {
		t.Error("the program shares memory with the types or the scopes")
	}
}

// R3: no answer is kept: what is done to it changes no later one. R5: each one is the same again.
func TestAgain(t *testing.T) {
	first, _ := check(t, texts())
	want := answers(first)
	for range 50 {
		w, e := repo.Check(texts())
		if e != (api.Place{}) || !sameWholes(w, first) || answers(w) != want {
			t.Fatalf("Check again: %v, %v", w, e)
		}
		for _, list := range append([][]string{repo.Mains(w), repo.Packages(w)}, repo.Imports(w, "a"), repo.Imports(w, "main")) {
			_ = append(list, "x", "x", "x")
			clear(list)
		}
		if got := answers(w); got != want {
			t.Fatalf("an answer was kept: %s, want %s", got, want)
		}
		clear(w.Program.Repo.Files)
		clear(w.Program.Trees)
		clear(w.Scopes.Uses)
		clear(w.Typed.Means)
		clear(w.Typed.Types)
	}
}
