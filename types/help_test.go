package types_test

import (
	"fmt"
	"reflect"
	"slices"
	"strings"
	"testing"

	"shipwright/api"
	"shipwright/scope"
	"shipwright/types"
)

// repo is a repository of paths and texts by turns.
func repo(parts ...string) api.Repo {
	var r api.Repo
	for i := 0; i+1 < len(parts); i += 2 {
		r.Files = append(r.Files, api.File{Path: parts[i], Text: parts[i+1]})
	}
	return r
}

// mustRead is the program of a repository.
func mustRead(t *testing.T, r api.Repo) api.Program {
	t.Helper()
	p, e := scope.Read(r)
	if e != (api.Place{}) {
		t.Fatalf("Read(%q): %v", r.Files, e)
	}
	return p
}

// check holds Check of a repository, and the other calls for all that is there, against what they have to tell, and what follows of it (P14.3).
func check(t *testing.T, r api.Repo) (api.Program, api.Typed, api.Place) {
	t.Helper()
	p := mustRead(t, r)
	before := copied(p)
	x, e := types.Check(p)
	want, place := wantCheck(p)
	if e != place || !sameTyped(x, want) {
		t.Fatalf("Check of %q: %v, %v, want %v, %v", r.Files, x, e, want, place)
	}
	if !samePrograms(p, before) {
		t.Fatalf("Check of %q has changed it", r.Files)
	}
	if e == (api.Place{}) {
		follows(t, p, x)
	}
	return p, x, e
}

// follows is P14.3, of a program that is right: each expression has a type, but for calls that stand alone and tell nothing; what is put into has one, too; what is meant has the name that stands there.
func follows(t *testing.T, p api.Program, x api.Typed) {
	t.Helper()
	for i, tree := range p.Trees {
		for j, n := range tree.Nodes {
			l := look{&world{Program: p}, i, j}
			u := x.Means[i][j]
			parent := l.parent()
			typed := x.Types[i][j] != api.Typ{}
			switch {
			case !isExpression(n.Kind) || parent == api.NodeFar || u.Kind == api.UseImport || l.isCalled():
			case !typed && (n.Kind != api.NodeCall || parent != api.NodeExpr):
				t.Fatalf("%q: file %d, node %d has no type", p.Repo.Files, i, j)
			}
			if n.Kind == api.NodeAssign && (x.Types[i][n.Kids[0]] == api.Typ{}) {
				t.Fatalf("%q: file %d, node %d: something is put into what has no type", p.Repo.Files, i, j)
			}
			if (u.Kind == api.UseField || u.Kind == api.UseMethod) && n.Kind == api.NodeDot && p.Trees[u.File].Nodes[u.Node].Text != n.Text {
				t.Fatalf("%q: file %d, node %d means %v", p.Repo.Files, i, j, u)
			}
		}
	}
}

// isExpression tells whether nodes of a Kind are expressions.
func isExpression(kind int) bool {
	return kind >= api.NodeInt && kind <= api.NodeBinary
}

// samePrograms holds programs against each other, nil and empty lists being one.
func samePrograms(a, b api.Program) bool {
	return slices.Equal(a.Repo.Files, b.Repo.Files) && slices.EqualFunc(a.Trees, b.Trees, func(x, y api.Tree) bool {
		return slices.EqualFunc(x.Nodes, y.Nodes, func(m, n api.Node) bool {
			same := slices.Equal(m.Kids, n.Kids)
			m.Kids, n.Kids = nil, nil
			return same && reflect.DeepEqual(m, n)
		})
	})
}

// sameTyped holds types and meanings against each other, nil and empty lists being one.
func sameTyped(a, b api.Typed) bool {
	return fmt.Sprint(a) == fmt.Sprint(b)
}

// copied is a program that shares no list with p.
func copied(p api.Program) api.Program {
	q := api.Program{Repo: api.Repo{Files: slices.Clone(p.Repo.Files)}, Trees: slices.Clone(p.Trees)}
	for i := range q.Trees {
		q.Trees[i].Nodes = slices.Clone(q.Trees[i].Nodes)
		for j := range q.Trees[i].Nodes {
			q.Trees[i].Nodes[j].Kids = slices.Clone(q.Trees[i].Nodes[j].Kids)
		}
	}
	return q
}

// unmarked is a repository without the sign ^ that may stand in one of its texts, and where that stood: in which file, and at which byte; -1, if nowhere.
func unmarked(parts ...string) (r api.Repo, file, at int) {
	r, file, at = repo(parts...), -1, -1
	for i, f := range r.Files {
		if k := strings.Index(f.Text, "^"); k >= 0 {
			file, at = i, k
			r.Files[i].Text = f.Text[:k] + f.Text[k+1:]
		}
	}
	return r, file, at
}

// refused holds Check of paths and texts against an error, at the sign ^ that stands in one of the texts, ahead of the place.
func refused(t *testing.T, err api.Errno, parts ...string) {
	t.Helper()
	r, file, at := unmarked(parts...)
	want := api.Place{Err: err, File: file, At: at}
	if _, x, e := check(t, r); e != want || len(x.Types) > 0 || len(x.Means) > 0 {
		t.Errorf("Check of %q: %v, %v, want %v", r.Files, x, e, want)
	}
}

// right holds Check of paths and texts against no error.
func right(t *testing.T, parts ...string) (api.Program, api.Typed) {
	t.Helper()
	p, x, e := check(t, repo(parts...))
	if e != (api.Place{}) || len(x.Types) != len(p.Trees) || len(x.Means) != len(p.Trees) {
		t.Errorf("Check of %q: %v", p.Repo.Files, e)
	}
	return p, x
}

// words are the Kinds of nodes, as a listing says them.
var words = strings.Fields("none file import const var struct field func recv param basic named far block if for return short assign expr int text bool name dot call unary binary")

// listing says of each node of a file its Kind, its type, if it has one (of a struct its file and node), and what it means, if anything.
func listing(p api.Program, x api.Typed, file int) string {
	var list []string
	for j, n := range p.Trees[file].Nodes {
		s := words[n.Kind]
		switch typ := x.Types[file][j]; {
		case typ.Kind == api.TypStruct:
			s += fmt.Sprintf(":%d.%d", typ.File, typ.Node)
		case typ != api.Typ{}:
			s += ":" + map[api.Typ]string{{Kind: api.TypInt}: "int", {Kind: api.TypBool}: "bool", {Kind: api.TypString}: "string"}[typ]
		}
		if u := x.Means[file][j]; u != (api.Use{}) {
			s += fmt.Sprintf("=%s%d.%d", [...]string{"", "local", "top", "import", "builtin", "field", "method"}[u.Kind], u.File, u.Node)
		}
		list = append(list, s)
	}
	return strings.Join(list, " ")
}

// listed holds what Check tells of the nodes of a file against a listing.
func listed(t *testing.T, want string, file int, parts ...string) {
	t.Helper()
	p, x := right(t, parts...)
	if got := listing(p, x, file); got != strings.Join(strings.Fields(want), " ") {
		t.Errorf("Check of %q, file %d:\n%s\nwant\n%s", p.Repo.Files, file, got, want)
	}
}
