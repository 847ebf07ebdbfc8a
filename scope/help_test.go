package scope_test

import (
	"reflect"
	"regexp"
	"slices"
	"strings"
	"testing"

	"shipwright/api"
	"shipwright/scope"
)

// repo is a repository of paths and texts by turns.
func repo(parts ...string) api.Repo {
	var r api.Repo
	for i := 0; i+1 < len(parts); i += 2 {
		r.Files = append(r.Files, api.File{Path: parts[i], Text: parts[i+1]})
	}
	return r
}

// mustRead is the program of a repository.
func mustRead(t *testing.T, r api.Repo) api.Program {
	t.Helper()
	p, e := scope.Read(r)
	if e != (api.Place{}) {
		t.Fatalf("Read(%q): %v", r.Files, e)
	}
	return p
}

// check holds Read and Resolve of a repository, and Declared of all its names, against what they have to tell, and what follows of it (P13.4).
func check(t *testing.T, r api.Repo) (api.Scopes, api.Place) {
	t.Helper()
	p, e := scope.Read(r)
	want, wantPlace := wantRead(r)
	if e != wantPlace || !samePrograms(p, want) {
		t.Fatalf("Read(%q): %v, %v, want %v, %v", r.Files, p, e, want, wantPlace)
	}
	if e != (api.Place{}) {
		return api.Scopes{}, e
	}
	s, e := scope.Resolve(p)
	uses, place := wantResolve(p)
	if e != place || !sameUses(s.Uses, uses) {
		t.Fatalf("Resolve of %q: %v, %v, want %v, %v", r.Files, s, e, uses, place)
	}
	if !samePrograms(p, want) {
		t.Fatalf("Resolve of %q has changed it", r.Files)
	}
	behind(t, p, s)
	return s, e
}

// behind is P13.4: a use of a local stands in its file, behind its declaration.
func behind(t *testing.T, p api.Program, s api.Scopes) {
	t.Helper()
	for i, list := range s.Uses {
		for j, u := range list {
			if u.Kind != api.UseLocal {
				continue
			}
			nodes := p.Trees[i].Nodes
			if u.File != i || u.Node >= j || nodes[u.Node].At >= nodes[j].At || nodes[u.Node].Text != nodes[j].Text {
				t.Fatalf("%q: file %d, node %d means %v", p.Repo.Files, i, j, u)
			}
		}
	}
}

// samePrograms holds programs against each other, nil and empty lists being one.
func samePrograms(a, b api.Program) bool {
	return slices.Equal(a.Repo.Files, b.Repo.Files) && slices.EqualFunc(a.Trees, b.Trees, func(x, y api.Tree) bool {
		return slices.EqualFunc(x.Nodes, y.Nodes, func(m, n api.Node) bool {
			same := slices.Equal(m.Kids, n.Kids)
			m.Kids, n.Kids = nil, nil
			return same && reflect.DeepEqual(m, n)
		})
	})
}

// sameUses holds uses against each other, nil and empty lists being one.
func sameUses(a, b [][]api.Use) bool {
	return slices.EqualFunc(a, b, func(x, y []api.Use) bool { return slices.Equal(x, y) })
}

// copied is a program that shares no list with p.
func copied(p api.Program) api.Program {
	q := api.Program{Repo: api.Repo{Files: slices.Clone(p.Repo.Files)}, Trees: slices.Clone(p.Trees)}
	for i := range q.Trees {
		q.Trees[i].Nodes = slices.Clone(q.Trees[i].Nodes)
		for j := range q.Trees[i].Nodes {
			q.Trees[i].Nodes[j].Kids = slices.Clone(q.Trees[i].Nodes[j].Kids)
		}
	}
	return q
}

// refused holds Resolve of paths and texts against an error, at the sign ^ that stands in one of the texts, ahead of the place.
func refused(t *testing.T, err api.Errno, parts ...string) {
	t.Helper()
	want := api.Place{Err: err, File: -1}
	r := repo(parts...)
	for i, f := range r.Files {
		if at := strings.Index(f.Text, "^"); at >= 0 {
			want.File, want.At = i, at
			r.Files[i].Text = f.Text[:at] + f.Text[at+1:]
		}
	}
	mustRead(t, r)
	if s, e := check(t, r); e != want || len(s.Uses) > 0 {
		t.Errorf("Resolve of %q: %v, %v, want %v", r.Files, s, e, want)
	}
}

// marked is a name or a text that has a label behind it: with # it declares that, with @ it means it.
var marked = regexp.MustCompile(`("[^"]*"|\w+)([#@])(\w+)`)

// label is the Kind of a use, as a label begins.
var label = map[byte]int{'l': api.UseLocal, 't': api.UseTop, 'i': api.UseImport}

// builtin is a use, as a label says it.
var builtin = map[string]api.Use{"b1": {Kind: 4, Node: 1}, "b2": {Kind: 4, Node: 2}, "b3": {Kind: 4, Node: 3}, "b4": {Kind: 4, Node: 4}}

// spot is a byte of a file.
type spot struct{ file, at int }

// unmark takes the labels out of the texts, and tells where they stood: those of declarations, and those of uses.
func unmark(r api.Repo) (declares, means map[spot]string) {
	declares, means = map[spot]string{}, map[spot]string{}
	for i, f := range r.Files {
		text := f.Text
		for m := marked.FindStringSubmatchIndex(text); m != nil; m = marked.FindStringSubmatchIndex(text) {
			where, name := spot{i, m[2]}, text[m[6]:m[7]]
			if text[m[4]] == '#' {
				declares[where] = name
			} else {
				means[where] = name
			}
			text = text[:m[3]] + text[m[1]:]
		}
		r.Files[i].Text = text
	}
	return declares, means
}

// meant holds Resolve of paths and texts against the labels in these: what is not labelled means nothing.
func meant(t *testing.T, parts ...string) {
	t.Helper()
	r := repo(parts...)
	declares, means := unmark(r)
	p := mustRead(t, r)
	s, e := check(t, r)
	if e != (api.Place{}) {
		t.Errorf("Resolve of %q: %v", r.Files, e)
		return
	}
	of := map[string]api.Use{}
	for i, x := range p.Trees {
		for j, n := range x.Nodes {
			if name, ok := declares[spot{i, n.At}]; ok && isDeclaration(n.Kind) {
				if _, twice := of[name]; twice {
					t.Fatalf("%q: two are labelled %s", r.Files, name)
				}
				of[name] = api.Use{Kind: label[name[0]], File: i, Node: j}
			}
		}
	}
	for name, u := range builtin {
		of[name] = u
	}
	met := 0
	for i, x := range p.Trees {
		if len(s.Uses[i]) != len(x.Nodes) {
			t.Fatalf("%q: file %d: %d uses of %d nodes", r.Files, i, len(s.Uses[i]), len(x.Nodes))
		}
		for j, n := range x.Nodes {
			var want api.Use
			if name, ok := means[spot{i, n.At}]; ok && isUse(n.Kind) {
				if want, ok = of[name]; !ok {
					t.Fatalf("%q: nothing is labelled %s", r.Files, name)
				}
				met++
			}
			if s.Uses[i][j] != want {
				t.Errorf("%q: file %d, node %d (%s at %d): %v, want %v", r.Files, i, j, n.Text, n.At, s.Uses[i][j], want)
			}
		}
	}
	if met != len(means) {
		t.Errorf("%q: %d labels, %d uses", r.Files, len(means), met)
	}
}

// isDeclaration tells whether nodes of a Kind declare their Text.
func isDeclaration(kind int) bool {
	return kind >= api.NodeImport && kind <= api.NodeParam || kind == api.NodeShort
}

// isUse tells whether nodes of a Kind may mean something.
func isUse(kind int) bool {
	return kind == api.NodeName || kind == api.NodeNamed || kind == api.NodeFar || kind == api.NodeDot
}
