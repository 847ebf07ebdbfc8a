package repo_test

import (
	"fmt"
	"reflect"
	"slices"
	"strings"
	"testing"

	"shipwright/api"
	"shipwright/repo"
	"shipwright/scope"
	"shipwright/types"
)

// made is a repository of paths and texts by turns.
func made(parts ...string) api.Repo {
	var r api.Repo
	for i := 0; i+1 < len(parts); i += 2 {
		r.Files = append(r.Files, api.File{Path: parts[i], Text: parts[i+1]})
	}
	return r
}

// unmarked is a repository without the sign ^ that may stand in one of its texts, and where that stood: in which file, and at which byte; -1, if nowhere.
func unmarked(parts ...string) (r api.Repo, file, at int) {
	r, file, at = made(parts...), -1, -1
	for i, f := range r.Files {
		if k := strings.Index(f.Text, "^"); k >= 0 {
			file, at = i, k
			r.Files[i].Text = f.Text[:k] + f.Text[k+1:]
		}
	}
	return r, file, at
}

// check holds Check of a repository, and all other calls for what is there, against what they have to tell, and what follows of it (P15.4).
func check(t *testing.T, r api.Repo) (api.Whole, api.Place) {
	t.Helper()
	before := slices.Clone(r.Files)
	w, e := repo.Check(r)
	want, place := wantCheck(r)
	if e != place || !sameWholes(w, want) {
		t.Fatalf("Check(%q): %v, %v, want %v, %v", r.Files, w, e, want, place)
	}
	if !slices.Equal(r.Files, before) {
		t.Fatalf("Check has changed %q to %q", before, r.Files)
	}
	if e == (api.Place{}) {
		checkPackages(t, w)
		checkOf(t, w)
	}
	return w, e
}

// checkPackages holds Mains, Packages, Imports and Reaches of a whole that is right against what they have to tell.
func checkPackages(t *testing.T, w api.Whole) {
	t.Helper()
	files := w.Program.Repo.Files
	all := wantPackages(w.Program.Repo)
	if list := repo.Packages(w); !slices.Equal(list, all) {
		t.Fatalf("Packages of %q: %q, want %q", files, list, all)
	}
	if list, want := repo.Mains(w), wantMains(w.Program.Repo); !slices.Equal(list, want) {
		t.Fatalf("Mains of %q: %q, want %q", files, list, want)
	}
	reach := wantReach(w.Program.Repo)
	some := append(slices.Clone(all), "", "main", "x", "a/", "/a", "a/x.go", "A")
	for _, from := range some {
		if list, want := repo.Imports(w, from), wantImports(w.Program.Repo, from); !slices.Equal(list, want) {
			t.Fatalf("Imports of %q, %q: %q, want %q", files, from, list, want)
		}
		for _, to := range some {
			if is := repo.Reaches(w, from, to); is != (reach[[2]string{from, to}] > 0) {
				t.Fatalf("Reaches of %q, %q, %q: %t", files, from, to, is)
			}
		}
		if repo.Reaches(w, from, from) {
			t.Fatalf("%q is right, and %q reaches itself", files, from)
		}
	}
}

// checkOf holds Of of a whole that is right against what it has to tell: of each node, and of numbers round those, for each Kind of use and others.
func checkOf(t *testing.T, w api.Whole) {
	t.Helper()
	want := wantOf(w.Program)
	met := 0
	for file := -2; file < len(w.Program.Trees)+2; file++ {
		n := 0
		if file >= 0 && file < len(w.Program.Trees) {
			n = len(w.Program.Trees[file].Nodes)
		}
		for node := -2; node < n+2; node++ {
			for kind := -1; kind <= api.UseMethod+1; kind++ {
				u := api.Use{Kind: kind, File: file, Node: node}
				one, ok := want[u]
				if ok {
					met++
				}
				if folder, name := repo.Of(w, u); folder != one[0] || name != one[1] {
					t.Fatalf("Of(%q, %v): %q, %q, want %q", w.Program.Repo.Files, u, folder, name, one)
				}
			}
		}
	}
	if met != len(want) {
		t.Fatalf("%q: %d of %d declarations were met", w.Program.Repo.Files, met, len(want))
	}
}

// refused holds Check of paths and texts against an error, at the sign ^ that stands in one of the texts, ahead of the place; at file 0, 0, if it stands in none.
func refused(t *testing.T, err api.Errno, parts ...string) {
	t.Helper()
	r, file, at := unmarked(parts...)
	want := api.Place{Err: err, File: max(file, 0), At: max(at, 0)}
	if w, e := check(t, r); e != want || !reflect.DeepEqual(w, api.Whole{}) {
		t.Errorf("Check(%q): %v, %v, want %v", r.Files, w, e, want)
	}
}

// right holds Check of paths and texts against no error.
func right(t *testing.T, parts ...string) api.Whole {
	t.Helper()
	w, e := check(t, made(parts...))
	if e != (api.Place{}) || len(w.Program.Repo.Files) != len(parts)/2 {
		t.Fatalf("Check(%q): %v, %v", parts, w, e)
	}
	return w
}

// sameWholes holds wholes against each other, nil and empty lists being one.
func sameWholes(a, b api.Whole) bool {
	return slices.Equal(a.Program.Repo.Files, b.Program.Repo.Files) && fmt.Sprint(a.Program.Trees) == fmt.Sprint(b.Program.Trees) &&
		scope.Same(a.Scopes, b.Scopes) && types.Same(a.Typed, b.Typed)
}

// list holds texts against others, said with blanks between.
func list(t *testing.T, what string, got []string, want string) {
	t.Helper()
	if !slices.Equal(got, strings.Fields(want)) {
		t.Errorf("%s: %q, want %q", what, got, want)
	}
}
