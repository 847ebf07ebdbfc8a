package scope_test

import (
	"slices"
	"strings"
	"testing"

	"shipwright/api"
	"shipwright/scope"
)

// P13.1: Folder of what is the language's and of what is not; whether it is a path is not asked.
func TestFolder(t *testing.T) {
	for _, q := range []struct {
		path, folder string
		ok           bool
	}{
		{"a/x.go", "a", true},
		{"b/c/y.go", "b/c", true},
		{"a/b/c/d.go", "a/b/c", true},
		{"a/b/c/d/e/f.go", "a/b/c/d/e", true},
		{"a/..go", "a", true},
		{"a/.go.go", "a", true},
		{"a/x.go.go", "a", true},
		{"a.go/x.go", "a.go", true},
		{"a/-.go", "a", true},
		{"x.go", "", false},
		{".go", "", false},
		{"a", "", false},
		{"a/b", "", false},
		{"a/.go", "", false},
		{"a/b/.go", "", false},
		{"/.go", "", false},
		{"a/x", "", false},
		{"a/go", "", false},
		{"a/xgo", "", false},
		{"a/x.g", "", false},
		{"a/x.Go", "", false},
		{"a/x.go ", "", false},
		{"a/x.goo", "", false},
		{"a/x.go/", "", false},
		{"a/x.go/y", "", false},
		{"a/.go/y", "", false},
		{"", "", false},
		{"/", "", false},
		{"/x.go", "", true},
		{"//x.go", "/", true},
		{"a//x.go", "a/", true},
		{"../x.go", "..", true},
		{"a b\n/\xff.go", "a b\n", true},
		{strings.Repeat("a/", 99) + "x.go", strings.Repeat("a/", 98) + "a", true},
	} {
		if s, ok := scope.Folder(q.path); s != q.folder || ok != q.ok {
			t.Errorf("Folder(%q): %q, %t", q.path, s, ok)
		}
		if s, ok := wantFolder(q.path); s != q.folder || ok != q.ok {
			t.Errorf("the model's Folder(%q): %q, %t", q.path, s, ok)
		}
	}
}

// P13.1: Name, Builtin and Shown.
func TestNames(t *testing.T) {
	for folder, want := range map[string]string{"a": "a", "b/c": "c", "a/b/cd": "cd", "abc": "abc", "": "", "a/": "", "/": "", "/a": "a", "a//b": "b", "a.go/b-c": "b-c"} {
		if s := scope.Name(folder); s != want {
			t.Errorf("Name(%q): %q", folder, s)
		}
	}
	for s, want := range map[string]int{"println": 1, "len": 2, "arg": 3, "panic": 4, "": 0, "print": 0, "Println": 0, "lens": 0, "args": 0, "le": 0, "LEN": 0, "panics": 0, "int": 0, "true": 0, " len": 0, "main": 0} {
		if n := scope.Builtin(s); n != want {
			t.Errorf("Builtin(%q): %d", s, n)
		}
	}
	for s, want := range map[string]bool{"A": true, "Z": true, "M": true, "Ab": true, "Zz": true, "A_": true, "aB": false, "a": false, "z": false, "_": false, "_A": false, "": false, "@": false, "[": false, "@A": false, "[A": false, "1A": false, " A": false, "\xc4": false, "\u00c4": false, "\x00": false} {
		if ok := scope.Shown(s); ok != want {
			t.Errorf("Shown(%q): %t", s, ok)
		}
	}
	for b := range 256 {
		s := string([]byte{byte(b), 'x'})
		if ok := scope.Shown(s); ok != wantShown(s) {
			t.Errorf("Shown(%q): %t", s, ok)
		}
	}
}

// P13.1: what Read tells of files, those that are not the language's among them.
func TestRead(t *testing.T) {
	if p := mustRead(t, api.Repo{}); len(p.Repo.Files) > 0 || len(p.Trees) > 0 {
		t.Errorf("Read of nothing: %v", p)
	}
	r := repo("a/.go", "#", "a/x.go", "package a\n", "a/x.md", "\"", "b/c/y.go", "package q; const k = 1", "z.go", "007")
	p := mustRead(t, r)
	check(t, r)
	if !slices.Equal(p.Repo.Files, r.Files) || len(p.Trees) != 5 {
		t.Fatalf("Read: %v", p)
	}
	for i, want := range []int{0, 1, 0, 3, 0} {
		if n := len(p.Trees[i].Nodes); n != want {
			t.Errorf("file %d: %d nodes, want %d", i, n, want)
		}
	}
	n := p.Trees[3].Nodes
	if n[1].Kind != api.NodeConst || n[1].Text != "k" || n[1].At != 17 || n[1].From != 11 || n[1].To != 22 || !slices.Equal(n[1].Kids, []int{2}) {
		t.Errorf("node 1: %v", n[1])
	}
	full := api.Repo{}
	for i := range 16 {
		full.Files = append(full.Files, api.File{Path: "a/" + string(rune('a'+i)) + ".go", Text: "package a" + strings.Repeat("\n", 1015)})
	}
	if _, e := check(t, full); e != (api.Place{}) {
		t.Errorf("Read of 16384 bytes: %v", e)
	}
}

// P13.1: what is no repository, and the first wrong text.
func TestReadWrong(t *testing.T) {
	for _, q := range []struct {
		r    api.Repo
		want api.Place
	}{
		{repo("b/x.go", "package b", "a/x.go", "package a"), api.Place{Err: api.ErrRepo}},
		{repo("a/x.go", "package a", "a/x.go", "package a"), api.Place{Err: api.ErrRepo}},
		{repo("a/x.go", "#", "b//x.go", "package b"), api.Place{Err: api.ErrRepo}},
		{repo("", ""), api.Place{Err: api.ErrRepo}},
		{repo("a", "", "a/x.go", "package a"), api.Place{Err: api.ErrRepo}},
		{repo("a/x.go", "package a"+strings.Repeat(" ", 4088)), api.Place{Err: api.ErrRepo}},
		{api.Repo{Files: make([]api.File, 17)}, api.Place{Err: api.ErrRepo}},
		{repo("a/x.go", ""), api.Place{Err: api.ErrParse}},
		{repo("a/x.go", "#"), api.Place{Err: api.ErrLex}},
		{repo("a/x.go", "package a; const k = 007"), api.Place{Err: api.ErrNumber, At: 21}},
		{repo("a/x.go", "package a\nfunc"), api.Place{Err: api.ErrParse, At: 14}},
		{repo("a/x.go", "package a\nvar if int"), api.Place{Err: api.ErrParse, At: 14}},
		{repo("a/x.go", "package abcdefghijklmnopqrstuvwxy"), api.Place{Err: api.ErrLong, At: 8}},
		{repo("a/x.go", "package a; var v int = "+strings.Repeat("-", 22)+"1"), api.Place{Err: api.ErrLong}},
		{repo("a/x.go", "package a", "b/x.go", "package b; \""), api.Place{Err: api.ErrLex, File: 1, At: 11}},
		{repo("a/x.md", "#", "b/x.go", "package b; }", "c/x.go", "#"), api.Place{Err: api.ErrParse, File: 1, At: 11}},
		{repo("a/x.go", "package q", "b/x.go", "package b; import", "c/x.go", ""), api.Place{Err: api.ErrParse, File: 1, At: 17}},
	} {
		if p, e := scope.Read(q.r); e != q.want || !samePrograms(p, api.Program{}) {
			t.Errorf("Read(%q): %v, %v, want %v", q.r.Files, p, e, q.want)
		}
		check(t, q.r)
		given := api.Program{Repo: q.r, Trees: make([]api.Tree, len(q.r.Files))}
		for _, p := range []api.Program{{Repo: q.r}, given} {
			if s, e := scope.Resolve(p); e != (api.Place{Err: api.ErrRepo}) || len(s.Uses) > 0 {
				t.Errorf("Resolve of %q: %v, %v", q.r.Files, s, e)
			}
			if u, ok := scope.Declared(p, "a", "k"); ok || u != (api.Use{}) {
				t.Errorf("Declared of %q: %v, %t", q.r.Files, u, ok)
			}
		}
	}
}

// strangers are programs that Read does not tell of their repositories.
func strangers(p api.Program) []api.Program {
	var list []api.Program
	changed := func(change func(q *api.Program)) {
		q := copied(p)
		change(&q)
		list = append(list, q)
	}
	for _, change := range []func(q *api.Program){
		func(q *api.Program) { q.Trees = nil },
		func(q *api.Program) { q.Trees = q.Trees[1:] },
		func(q *api.Program) { q.Trees = q.Trees[:len(q.Trees)-1] },
		func(q *api.Program) { q.Trees = append(q.Trees, api.Tree{}) },
		func(q *api.Program) { q.Trees[0], q.Trees[1] = q.Trees[1], q.Trees[0] },
		func(q *api.Program) { q.Trees[0] = api.Tree{} },
		func(q *api.Program) { q.Trees[2] = copied(p).Trees[0] },
		func(q *api.Program) { q.Trees[2].Nodes = make([]api.Node, 1) },
		func(q *api.Program) { q.Repo = api.Repo{} },
		func(q *api.Program) { q.Repo.Files = q.Repo.Files[1:] },
		func(q *api.Program) { q.Repo.Files = append(q.Repo.Files, api.File{Path: "z", Text: "z"}) },
		func(q *api.Program) { q.Repo.Files[1].Path = "a" },
		func(q *api.Program) { q.Repo.Files[0].Text += "; const other = 1" },
		func(q *api.Program) { q.Repo.Files[0].Text = " " + q.Repo.Files[0].Text },
		func(q *api.Program) { q.Repo.Files[0].Text = "" },
		func(q *api.Program) { q.Repo.Files[2].Path = "c/x.go" },
		func(q *api.Program) { q.Trees[0].Nodes = q.Trees[0].Nodes[:len(q.Trees[0].Nodes)-1] },
		func(q *api.Program) { q.Trees[0].Nodes = append(q.Trees[0].Nodes, api.Node{}) },
	} {
		changed(change)
	}
	for i := range p.Trees[0].Nodes {
		for _, change := range []func(n *api.Node){
			func(n *api.Node) { n.Kind++ },
			func(n *api.Node) { n.Text += "x" },
			func(n *api.Node) { n.Num++ },
			func(n *api.Node) { n.At++ },
			func(n *api.Node) { n.From-- },
			func(n *api.Node) { n.To++ },
			func(n *api.Node) { n.Kids = append(n.Kids, 1) },
			func(n *api.Node) { n.Kids = []int{-1, 1 << 40} },
		} {
			changed(func(q *api.Program) { change(&q.Trees[0].Nodes[i]) })
		}
	}
	return list
}

// P13.2, P13.3: a program that is not what Read tells of its repository.
func TestStrangers(t *testing.T) {
	p := mustRead(t, repo("a/x.go", "package a; func f(x int) int { return x + g(1) }", "a/y.go", "package a; func g(x int) int { return x }", "b", "none"))
	if _, e := scope.Resolve(p); e != (api.Place{}) {
		t.Fatal(e)
	}
	for i, q := range strangers(p) {
		if s, e := scope.Resolve(q); e != (api.Place{Err: api.ErrRepo}) || len(s.Uses) > 0 {
			t.Errorf("Resolve of stranger %d, %v: %v, %v", i, q, s, e)
		}
		if u, ok := scope.Declared(q, "a", "f"); ok || u != (api.Use{}) {
			t.Errorf("Declared of stranger %d, %v: %v, %t", i, q, u, ok)
		}
	}
	empty := copied(p)
	for i := range empty.Trees {
		for j, n := range empty.Trees[i].Nodes {
			if n.Kids == nil {
				empty.Trees[i].Nodes[j].Kids = []int{}
			}
		}
	}
	empty.Trees[2].Nodes = []api.Node{}
	if _, e := scope.Resolve(empty); e != (api.Place{}) {
		t.Errorf("with empty lists for nil ones: %v", e)
	}
	if u, ok := scope.Declared(empty, "a", "f"); !ok || u != (api.Use{Kind: api.UseTop, Node: 1}) {
		t.Errorf("with empty lists for nil ones: %v, %t", u, ok)
	}
	if s, e := scope.Resolve(api.Program{Trees: []api.Tree{}}); e != (api.Place{}) || len(s.Uses) > 0 {
		t.Errorf("Resolve of nothing: %v, %v", s, e)
	}
	if _, e := scope.Resolve(api.Program{Trees: make([]api.Tree, 1)}); e != (api.Place{Err: api.ErrRepo}) {
		t.Errorf("Resolve of a tree more than none: %v", e)
	}
}

// P13.3: Declared, whatever is wrong with what names mean.
func TestDeclared(t *testing.T) {
	p := mustRead(t, repo(
		"a/x.go", "package a; import \"q\"; const k = 1; var v int; type T struct { F int }; func f(p int) { l := 1 }; func (r T) m() { }",
		"a/y.go", "package wrong; func k() { }; func w() { }; func m() { }; func m() { }",
		"c/a/x.go", "package a; const c = 1",
		"c/x.go", "package c; var v int; var v int",
		"k.go", "package k; const k = 1"))
	for _, q := range []struct {
		folder, name string
		use          api.Use
	}{
		{"a", "k", api.Use{Kind: api.UseTop, File: 0, Node: 2}},
		{"a", "v", api.Use{Kind: api.UseTop, File: 0, Node: 4}},
		{"a", "T", api.Use{Kind: api.UseTop, File: 0, Node: 6}},
		{"a", "f", api.Use{Kind: api.UseTop, File: 0, Node: 9}},
		{"a", "w", api.Use{Kind: api.UseTop, File: 1, Node: 3}},
		{"a", "m", api.Use{Kind: api.UseTop, File: 1, Node: 5}},
		{"c/a", "c", api.Use{Kind: api.UseTop, File: 2, Node: 1}},
		{"c", "v", api.Use{Kind: api.UseTop, File: 3, Node: 1}},
		{folder: "a", name: "q"}, {folder: "a", name: "F"}, {folder: "a", name: "p"}, {folder: "a", name: "l"}, {folder: "a", name: "r"},
		{folder: "a", name: "K"}, {folder: "a", name: ""}, {folder: "a", name: "a"}, {folder: "a", name: "println"}, {folder: "a", name: "int"}, {folder: "a", name: "c"},
		{folder: "wrong", name: "w"}, {folder: "c", name: "c"}, {folder: "c/a", name: "k"}, {folder: "c/a", name: "v"},
		{folder: "", name: "k"}, {folder: "k", name: "k"}, {folder: "a/", name: "k"}, {folder: "/a", name: "k"}, {folder: "q", name: "k"}, {folder: "a/x.go", name: "k"}, {folder: "", name: ""},
	} {
		if u, ok := scope.Declared(p, q.folder, q.name); u != q.use || ok != (q.use.Kind != 0) {
			t.Errorf("Declared(%q, %q): %v, %t, want %v", q.folder, q.name, u, ok, q.use)
		}
	}
	if u, ok := scope.Declared(api.Program{}, "a", "k"); ok || u != (api.Use{}) {
		t.Errorf("Declared of nothing: %v, %t", u, ok)
	}
}

// P13.3: Same, of uses that differ in one thing alone.
func TestSame(t *testing.T) {
	of := func(lists ...[]api.Use) api.Scopes { return api.Scopes{Uses: lists} }
	u := api.Use{Kind: 1, File: 2, Node: 3}
	list := []api.Scopes{
		{},
		of([]api.Use{}),
		of([]api.Use{}, []api.Use{}),
		of([]api.Use{{}}),
		of([]api.Use{u}),
		of([]api.Use{u, u}),
		of([]api.Use{u}, []api.Use{u}),
		of([]api.Use{u}, nil),
		of(nil, []api.Use{u}),
		of([]api.Use{u}, []api.Use{u, u}),
		of([]api.Use{{Kind: 2, File: 2, Node: 3}}),
		of([]api.Use{{Kind: 1, File: 1, Node: 3}}),
		of([]api.Use{{Kind: 1, File: 2, Node: 4}}),
		of([]api.Use{u, {Kind: 1, File: 2, Node: 2}}),
		of([]api.Use{{Kind: 1, File: 2, Node: 2}, u}),
		of([]api.Use{u}, []api.Use{{Kind: 1, File: 2}}),
		of([]api.Use{{Kind: 1, File: 2}}, []api.Use{u}),
	}
	for i, a := range list {
		for j, b := range list {
			var again api.Scopes
			for _, l := range b.Uses {
				again.Uses = append(again.Uses, append([]api.Use{}, l...))
			}
			if ok := scope.Same(a, again); ok != (i == j) {
				t.Errorf("Same(%v, %v): %t", a, b, ok)
			}
		}
	}
	if !scope.Same(api.Scopes{}, api.Scopes{Uses: [][]api.Use{}}) || !scope.Same(of(nil), of([]api.Use{})) {
		t.Error("Same of nil and empty lists")
	}
}

// room are lists with something behind their ends, which nobody may touch.
func room(r api.Repo) api.Repo {
	files := append(slices.Clone(r.Files), api.File{Path: "room"})
	return api.Repo{Files: files[:len(r.Files)]}
}

// R3: what is handed in is neither changed nor kept, and lists of an answer share nothing.
func TestMemory(t *testing.T) {
	r := room(repo("a/x.go", "package a; import \"b\"; var v int; func f(p int) int { q := p; return q + v + b.F(1) }", "b/x.go", "package b; func F(p int) int { return p }", "c", "none"))
	p := mustRead(t, r)
	want := copied(p)
	if r.Files[:4][3].Path != "room" || len(p.Repo.Files) != 3 {
		t.Errorf("Read has touched the room: %v", r.Files[:4])
	}
	for i := range r.Files {
		r.Files[i] = api.File{}
	}
	if !samePrograms(p, want) {
		t.Errorf("Read has kept its files: %v", p)
	}
	s, e := scope.Resolve(p)
	uses, _ := wantResolve(p)
	if e != (api.Place{}) || !sameUses(s.Uses, uses) || !samePrograms(p, want) {
		t.Fatalf("Resolve: %v, %v of %v", s, e, p)
	}
	if _, ok := scope.Declared(p, "a", "v"); !ok || !samePrograms(p, want) {
		t.Errorf("Declared: %t of %v", ok, p)
	}
	for i := range p.Trees {
		for j, n := range p.Trees[i].Nodes {
			_ = append(n.Kids, 7, 7, 7, 7)
			p.Trees[i].Nodes[j].Text = "other"
		}
		_ = append(p.Trees[i].Nodes, api.Node{Text: "other"})
		if again := copied(want); i+1 < len(p.Trees) && !samePrograms(api.Program{Trees: p.Trees[i+1:]}, api.Program{Trees: again.Trees[i+1:]}) {
			t.Errorf("trees of one answer share memory")
		}
	}
	_ = append(p.Trees, api.Tree{})
	if !sameUses(s.Uses, uses) {
		t.Errorf("Resolve has kept its program: %v", s)
	}
	for i := range s.Uses {
		_ = append(s.Uses[i], api.Use{Kind: 9}, api.Use{Kind: 9})
		clear(s.Uses[i])
		if !sameUses(s.Uses[i+1:], uses[i+1:]) {
			t.Errorf("uses of one answer share memory")
		}
	}
	if again, e := scope.Resolve(want); e != (api.Place{}) || !sameUses(again.Uses, uses) {
		t.Errorf("Resolve again: %v, %v", again, e)
	}
}

// R3: what Read tells shares no list with what it told ahead.
func TestReadAgain(t *testing.T) {
	r := repo("a/x.go", "package a; func f(p int) int { return p }", "b/x.go", "package b")
	p := mustRead(t, r)
	want := copied(p)
	p.Repo.Files[0] = api.File{}
	for i := range p.Trees {
		for j := range p.Trees[i].Nodes {
			clear(p.Trees[i].Nodes[j].Kids)
		}
		clear(p.Trees[i].Nodes)
	}
	if again := mustRead(t, r); !samePrograms(again, want) {
		t.Errorf("Read again: %v, want %v", again, want)
	}
}
