package types_test

import (
	"math"
	"slices"
	"testing"

	"shipwright/api"
	"shipwright/types"
)

// faces are the files of a program of which Fields, Method and Result are asked, and a file that has no nodes.
func faces(t *testing.T) api.Program {
	t.Helper()
	p, _ := right(t,
		"a.go", "-",
		"a/x.go", `package a; import "b"; type E struct { }; type T struct { i int; B b.T; s string; e E }; const k = 1; var v int`,
		"a/y.go", "package a; func f(x int, y E, z bool) T { return t }; func (r T) f(p T) { }; var t T; func (r E) g() E { return r }; func (r T) g() string { return r.s }; func n() { }",
		"b/x.go", `package b; type T struct { x bool }; func (r T) m(x T, y string) bool { return r.x }; func F() string { return "s" }`)
	return p
}

// around are numbers of files, or of nodes, that are there and that are not.
func around(n int) []int {
	list := []int{math.MinInt, -1 << 32, -n, -2, -1}
	for i := range n + 3 {
		list = append(list, i)
	}
	return append(list, 1<<16, 1<<32, 1<<32+1, math.MaxInt)
}

// P14.2: Fields, of all types that are there, and of what is none.
func TestFields(t *testing.T) {
	p := faces(t)
	for _, q := range []struct {
		file, node int
		want       []string
	}{{1, 2, nil}, {1, 3, []string{"i", "B", "s", "e"}}, {3, 1, []string{"x"}}} {
		l, err := types.Fields(p, api.Typ{Kind: api.TypStruct, File: q.file, Node: q.node})
		if err != api.OK || !slices.Equal(l, q.want) {
			t.Errorf("Fields of %d.%d: %q, %d, want %q", q.file, q.node, l, err, q.want)
		}
	}
	found := 0
	for _, file := range around(4) {
		for _, node := range around(48) {
			for _, kind := range []int{math.MinInt, -4, -1, 0, 1, 2, 3, 4, 5, 6, math.MaxInt} {
				s := api.Typ{Kind: kind, File: file, Node: node}
				is := kind == 4 && (file == 1 && (node == 2 || node == 3) || file == 3 && node == 1)
				l, err := types.Fields(p, s)
				if is != (err == api.OK) || !is && (err != api.ErrArg || len(l) > 0) {
					t.Errorf("Fields(%v): %q, %d", s, l, err)
				}
				if is {
					found++
				}
			}
		}
	}
	if found != 3 {
		t.Errorf("%d structs were met", found)
	}
}

// P14.2: Method, of what is there, of fields, functions and other structs' methods, and of what is no struct.
func TestMethod(t *testing.T) {
	p := faces(t)
	s := func(file, node int) api.Typ { return api.Typ{Kind: api.TypStruct, File: file, Node: node} }
	method := func(file, node int) api.Use { return api.Use{Kind: api.UseMethod, File: file, Node: node} }
	for _, q := range []struct {
		typ  api.Typ
		name string
		want api.Use
	}{
		{s(1, 3), "f", method(2, 12)}, {s(1, 3), "g", method(2, 27)}, {s(1, 2), "g", method(2, 20)}, {s(3, 1), "m", method(3, 4)},
		{typ: s(1, 2), name: "f"}, {typ: s(1, 3), name: "m"}, {typ: s(3, 1), name: "g"}, {typ: s(3, 1), name: "f"},
		{typ: s(1, 3), name: "i"}, {typ: s(1, 3), name: "B"}, {typ: s(3, 1), name: "x"}, {typ: s(1, 3), name: "n"}, {typ: s(3, 1), name: "F"}, {typ: s(1, 3), name: ""}, {typ: s(1, 3), name: "G"}, {typ: s(1, 3), name: "f "}, {typ: s(1, 3), name: "T"}, {typ: s(1, 3), name: "r"}, {typ: s(1, 3), name: "println"},
		{typ: s(2, 3), name: "f"}, {typ: s(1, 4), name: "f"}, {typ: s(0, 0), name: "f"}, {typ: s(1, 0), name: "f"}, {typ: s(2, 12), name: "f"}, {typ: s(-1, 3), name: "f"}, {typ: s(1, -3), name: "f"}, {typ: s(4, 3), name: "f"}, {typ: s(1, 1<<40), name: "f"}, {typ: s(math.MinInt, math.MaxInt), name: "f"},
		{typ: api.Typ{}, name: "f"}, {typ: api.Typ{File: 1, Node: 3}, name: "f"}, {typ: api.Typ{Kind: 1, File: 1, Node: 3}, name: "f"}, {typ: api.Typ{Kind: 3, File: 1, Node: 3}, name: "g"}, {typ: api.Typ{Kind: 5, File: 1, Node: 3}, name: "f"}, {typ: api.Typ{Kind: -4, File: 1, Node: 3}, name: "f"},
	} {
		u, ok := types.Method(p, q.typ, q.name)
		if u != q.want || ok != (q.want.Kind != 0) {
			t.Errorf("Method(%v, %q): %v, %t, want %v", q.typ, q.name, u, ok, q.want)
		}
	}
}

// P14.2: Result, of functions and methods, of one asked for as the other one, and of what is neither.
func TestResult(t *testing.T) {
	p := faces(t)
	none, whole, truth, text := api.Typ{}, api.Typ{Kind: 1}, api.Typ{Kind: 2}, api.Typ{Kind: 3}
	a, e, b := api.Typ{Kind: 4, File: 1, Node: 3}, api.Typ{Kind: 4, File: 1, Node: 2}, api.Typ{Kind: 4, File: 3, Node: 1}
	type told struct {
		typ    api.Typ
		params []api.Typ
	}
	want := map[api.Use]told{
		{Kind: 2, File: 2, Node: 1}:  {a, []api.Typ{whole, e, truth}},
		{Kind: 6, File: 2, Node: 12}: {none, []api.Typ{a}},
		{Kind: 6, File: 2, Node: 20}: {e, nil},
		{Kind: 6, File: 2, Node: 27}: {text, nil},
		{Kind: 2, File: 2, Node: 35}: {none, nil},
		{Kind: 6, File: 3, Node: 4}:  {truth, []api.Typ{b, text}},
		{Kind: 2, File: 3, Node: 16}: {text, nil},
	}
	met := 0
	for _, file := range around(4) {
		for _, node := range around(48) {
			for _, kind := range []int{math.MinInt, -2, -1, 0, 1, 2, 3, 4, 5, 6, 7, math.MaxInt} {
				u := api.Use{Kind: kind, File: file, Node: node}
				typ, params, err := types.Result(p, u)
				q, is := want[u]
				if is {
					met++
				}
				if is != (err == api.OK) || !is && err != api.ErrArg || typ != q.typ || !slices.Equal(params, q.params) {
					t.Errorf("Result(%v): %v, %v, %d, want %v", u, typ, params, err, q)
				}
			}
		}
	}
	if met != len(want) {
		t.Errorf("%d functions were met", met)
	}
}

// P14.2: Same, of types and meanings that differ in one thing alone.
func TestSame(t *testing.T) {
	typ := func(lists ...[]api.Typ) api.Typed { return api.Typed{Types: lists} }
	use := func(lists ...[]api.Use) api.Typed { return api.Typed{Means: lists} }
	s, u := api.Typ{Kind: 4, File: 2, Node: 3}, api.Use{Kind: 4, File: 2, Node: 3}
	list := []api.Typed{
		{},
		typ([]api.Typ{}), use([]api.Use{}),
		typ([]api.Typ{}, []api.Typ{}), use([]api.Use{}, []api.Use{}),
		{Types: [][]api.Typ{nil}, Means: [][]api.Use{nil}},
		typ([]api.Typ{{}}), use([]api.Use{{}}),
		typ([]api.Typ{s}), use([]api.Use{u}),
		typ([]api.Typ{s, s}), use([]api.Use{u, u}),
		typ([]api.Typ{s}, []api.Typ{s}), use([]api.Use{u}, []api.Use{u}),
		typ([]api.Typ{s}, nil), use([]api.Use{u}, nil),
		typ(nil, []api.Typ{s}), use(nil, []api.Use{u}),
		typ([]api.Typ{{Kind: 3, File: 2, Node: 3}}), use([]api.Use{{Kind: 3, File: 2, Node: 3}}),
		typ([]api.Typ{{Kind: 4, File: 1, Node: 3}}), use([]api.Use{{Kind: 4, File: 1, Node: 3}}),
		typ([]api.Typ{{Kind: 4, File: 2, Node: 4}}), use([]api.Use{{Kind: 4, File: 2, Node: 4}}),
		typ([]api.Typ{s, {Kind: 4, File: 2, Node: 2}}), use([]api.Use{u, {Kind: 4, File: 2, Node: 2}}),
		typ([]api.Typ{{Kind: 4, File: 2, Node: 2}, s}), use([]api.Use{{Kind: 4, File: 2, Node: 2}, u}),
		{Types: [][]api.Typ{{s}}, Means: [][]api.Use{{u}}},
		{Types: [][]api.Typ{{s}}, Means: [][]api.Use{{{}}}},
		{Types: [][]api.Typ{{{}}}, Means: [][]api.Use{{u}}},
		{Types: [][]api.Typ{{s}}, Means: [][]api.Use{{u}, {u}}},
		{Types: [][]api.Typ{{s}, {s}}, Means: [][]api.Use{{u}}},
		{Types: [][]api.Typ{{s}, {s}}, Means: [][]api.Use{{u}, {u}}},
	}
	for i, a := range list {
		for j, b := range list {
			var again api.Typed
			for _, l := range b.Types {
				again.Types = append(again.Types, append([]api.Typ{}, l...))
			}
			for _, l := range b.Means {
				again.Means = append(again.Means, append([]api.Use{}, l...))
			}
			if ok := types.Same(a, again); ok != (i == j) {
				t.Errorf("Same(%v, %v): %t", a, b, ok)
			}
		}
	}
	if !types.Same(api.Typed{}, api.Typed{Types: [][]api.Typ{}, Means: [][]api.Use{}}) {
		t.Error("Same of nil and empty lists")
	}
}

// withRoom is a program with something behind the ends of its lists, which nobody may touch, and a look at whether anybody has.
func withRoom(p api.Program) (api.Program, func() bool) {
	q := copied(p)
	files := append(q.Repo.Files, api.File{Path: "room"})
	trees := append(q.Trees, api.Tree{Nodes: []api.Node{{Text: "room"}}})
	q.Repo.Files, q.Trees = files[:len(files)-1], trees[:len(trees)-1]
	var nodes [][]api.Node
	var kids [][]int
	for i := range q.Trees {
		list := append(q.Trees[i].Nodes, api.Node{Text: "room"})
		q.Trees[i].Nodes = list[:len(list)-1]
		nodes = append(nodes, list)
		for j := range q.Trees[i].Nodes {
			more := append(q.Trees[i].Nodes[j].Kids, -7)
			q.Trees[i].Nodes[j].Kids = more[:len(more)-1]
			kids = append(kids, more)
		}
	}
	return q, func() bool {
		ok := files[len(files)-1].Path == "room" && trees[len(trees)-1].Nodes[0].Text == "room"
		for _, l := range nodes {
			ok = ok && l[len(l)-1].Text == "room"
		}
		for _, l := range kids {
			ok = ok && l[len(l)-1] == -7
		}
		return ok && samePrograms(p, q)
	}
}

// R3: what is handed in is neither changed nor kept, the room behind lists neither, and lists of an answer share nothing.
func TestMemory(t *testing.T) {
	given := faces(t)
	p, untouched := withRoom(given)
	want, _ := wantCheck(given)
	s, f := api.Typ{Kind: 4, File: 1, Node: 3}, api.Use{Kind: 2, File: 2, Node: 1}
	x, e := types.Check(p)
	names, err := types.Fields(p, s)
	_, ok := types.Method(p, s, "f")
	_, params, errResult := types.Result(p, f)
	if e != (api.Place{}) || err != api.OK || !ok || errResult != api.OK || !untouched() {
		t.Fatalf("%v, %d, %t, %d, of %v", e, err, ok, errResult, p)
	}
	for i := range p.Trees {
		for j := range p.Trees[i].Nodes {
			clear(p.Trees[i].Nodes[j].Kids)
		}
		clear(p.Trees[i].Nodes)
	}
	clear(p.Trees)
	clear(p.Repo.Files)
	if !sameTyped(x, want) || !slices.Equal(names, []string{"i", "B", "s", "e"}) || len(params) != 3 {
		t.Errorf("what was handed in was kept: %v, %q, %v", x, names, params)
	}
	again, _ := types.Check(given)
	for i := range x.Types {
		_ = append(x.Types[i], api.Typ{Kind: 9}, api.Typ{Kind: 9})
		_ = append(x.Means[i], api.Use{Kind: 9}, api.Use{Kind: 9})
		for j := range x.Types[i] {
			x.Types[i][j] = api.Typ{Kind: 9}
			x.Means[i][j] = api.Use{Kind: 9}
		}
		rest := func(x api.Typed) api.Typed { return api.Typed{Types: x.Types[i+1:], Means: x.Means[i+1:]} }
		if !sameTyped(rest(x), rest(want)) {
			t.Errorf("lists of one answer share memory")
		}
	}
	clear(names)
	clear(params)
	if !sameTyped(again, want) {
		t.Errorf("two answers share memory")
	}
	names, _ = types.Fields(given, s)
	_, params, _ = types.Result(given, f)
	if again, _ = types.Check(given); !sameTyped(again, want) || !slices.Equal(names, []string{"i", "B", "s", "e"}) || params[0] != (api.Typ{Kind: 1}) {
		t.Errorf("an answer was kept: %v, %q, %v", again, names, params)
	}
}

// R3: of a program that is wrong nothing is changed either.
func TestMemoryWrong(t *testing.T) {
	for _, text := range []string{"package a; func f() { x := 1 + 2; var y T; y.m(1).x = true }; type T struct { i int }; func (r T) m(x int) T { return r }", "package a; type T struct { t T }", "package a; var v int = 1 + 1", "package a; func f() { g() }"} {
		p, untouched := withRoom(mustRead(t, repo("a/x.go", text)))
		if _, e := types.Check(p); e.Err == api.OK {
			t.Errorf("Check of %q: %v", text, e)
		}
		types.Fields(p, api.Typ{Kind: 4, Node: 1})
		types.Method(p, api.Typ{Kind: 4, Node: 1}, "m")
		types.Result(p, api.Use{Kind: 2, Node: 1})
		if !untouched() {
			t.Errorf("%q was changed", text)
		}
	}
}
