package repo_test

import (
	"slices"
	"strings"
	"testing"

	"shipwright/api"
	"shipwright/repo"
	"shipwright/scope"
	"shipwright/types"
)

// P15.1, P15.2: the chapter's examples.
func TestExamples(t *testing.T) {
	w := right(t)
	list(t, "mains of no files", repo.Mains(w), "")
	refused(t, api.ErrCircle, "a/x.go", "package a; import ^\"b\"", "b/x.go", "package b; import \"a\"")
	refused(t, api.ErrMain, "main/m.go", "package main; func ^main(x int) { }")
	w = right(t, "q/main/m.go", "package main; func main() { }")
	list(t, "mains", repo.Mains(w), "q/main")
}

// P15.1: places, said by numbers.
func TestPlaces(t *testing.T) {
	for _, q := range []struct {
		r    api.Repo
		want api.Place
	}{
		{made("a/x.go", "package a\nimport \"b\"\n", "b/x.go", "package b\nimport \"a\"\n"), api.Place{Err: 250, File: 0, At: 17}},
		{made("README", "{", "a/x.go", "package a\n", "a/y.go", "package a\nimport\t\"b\"\n", "b/x.go", "package b\nimport \"a\"\n"), api.Place{Err: 250, File: 2, At: 17}},
		{made("main/m.go", "package main\nfunc main(x int) { }\n"), api.Place{Err: 251, File: 0, At: 18}},
		{made("a.go", "", "main/a.go", "package main\n", "main/m.go", "package main\nfunc  main() int { return 1 }\n"), api.Place{Err: 251, File: 2, At: 19}},
	} {
		if _, e := check(t, q.r); e != q.want {
			t.Errorf("Check(%q): %v, want %v", q.r.Files, e, q.want)
		}
	}
	if api.ErrCircle != 250 || api.ErrMain != 251 {
		t.Errorf("the errors are %d, %d", api.ErrCircle, api.ErrMain)
	}
}

// P15.1: of what is right the program, its scopes and its types.
func TestWhole(t *testing.T) {
	r := made("a/x.go", "package a; type T struct { n int }; func (r T) Get(by int) int { return r.n + by }; var V T",
		"main/m.go", "package main; import \"a\"; func main() { v := a.V; println(v.Get(arg(0))) }", "notes", "1 + \"")
	w, e := check(t, r)
	p, read := scope.Read(r)
	s, resolved := scope.Resolve(p)
	x, fit := types.Check(p)
	if e != (api.Place{}) || read.Err != api.OK || resolved.Err != api.OK || fit.Err != api.OK {
		t.Fatal(e, read, resolved, fit)
	}
	if !slices.Equal(w.Program.Repo.Files, r.Files) || len(w.Program.Trees) != 3 || !scope.Same(w.Scopes, s) || !types.Same(w.Typed, x) {
		t.Errorf("%v", w)
	}
	// v.Get: what scope does not tell stands in the types' meanings alone.
	dot := slices.IndexFunc(w.Program.Trees[1].Nodes, func(n api.Node) bool { return n.Text == "Get" })
	get := slices.IndexFunc(w.Program.Trees[0].Nodes, func(n api.Node) bool { return n.Text == "Get" })
	if w.Scopes.Uses[1][dot] != (api.Use{}) || w.Typed.Means[1][dot] != (api.Use{Kind: api.UseMethod, File: 0, Node: get}) {
		t.Errorf("v.Get: %v, %v", w.Scopes.Uses[1][dot], w.Typed.Means[1][dot])
	}
	if again, ok := scope.Declared(w.Program, "a", "V"); !ok || again.Kind != api.UseTop { // the program is what scope.Read tells
		t.Errorf("V: %v, %t", again, ok)
	}
}

// wrongs are files of repositories that are wrong as a whole: by a circle, by a main, by both. None is named ahead of w, or behind z.
func wrongs() [][]string {
	circle := []string{"y/x.go", "package y; import \"z\"", "z/x.go", "package z; import \"y\""}
	takes := []string{"x/main/m.go", "package main; func main(x int) { }"}
	tells := []string{"x/main/m.go", "package main; func main() int { return 1 }"}
	return [][]string{circle, takes, tells, slices.Concat(takes, circle), slices.Concat(tells, circle)}
}

// P15.1: what scope.Read refuses, what means nothing, and what does not fit is told ahead of a circle and of a wrong main, whether it stands ahead of them or behind.
func TestBelow(t *testing.T) {
	for _, q := range []struct {
		err  api.Errno
		text string // of a file of the package P
	}{
		{api.ErrLex, "package P; ^#"},
		{api.ErrLex, "^\"P"},
		{api.ErrNumber, "package P; const k = ^007"},
		{api.ErrLong, "package P; const ^" + strings.Repeat("k", api.MaxName+1) + " = 1"},
		{api.ErrLong, "^package P; func f() { " + strings.Repeat("{ ", 30) + strings.Repeat("} ", 30) + "}"},
		{api.ErrParse, "package P; var x int = ^if"},
		{api.ErrParse, "package P; import ^w"},
		{api.ErrClause, "package ^Q"},
		{api.ErrImport, "package P; import ^\"q\""},
		{api.ErrTwice, "package P; const k = 1; var ^k int"},
		{api.ErrTwice, "package P; import \"w\"; import ^\"w\""},
		{api.ErrUnknown, "package P; var v int = ^k"},
		{api.ErrHidden, "package P; import \"w\"; var v int = w.^k"},
		{api.ErrAlone, "package P; import \"w\"; var v int = ^w"},
		{api.ErrKind, "package P; func f() ^f { }"},
		{api.ErrCycle, "package P; type ^T struct { t T }"},
		{api.ErrLarge, "package P; var v string = ^\"" + strings.Repeat("x", api.MaxString+1) + "\""},
		{api.ErrTwice, "package P; type T struct { m int }; func (r T) ^m() { }"},
		{api.ErrType, "package P; var ^v bool = 1"},
		{api.ErrType, "package P; func f() int { return 1 ^+ true }"},
		{api.ErrStart, "package P; var v int = 1 ^+ 1"},
		{api.ErrCall, "package P; func f() { ^1 }"},
		{api.ErrField, "package P; func f(x int) int { return x.^y }"},
		{api.ErrValue, "package P; func f() int { return ^f }"},
		{api.ErrAssign, "package P; func f() { ^1 = 1 }"},
		{api.ErrReturn, "package P; func ^f() int { }"},
	} {
		for _, wrong := range wrongs() {
			w := []string{"w/x.go", "package w; const k = 1"}
			refused(t, q.err, slices.Concat([]string{"a/x.go", strings.ReplaceAll(q.text, "P", "a")}, w, wrong)...)
			refused(t, q.err, slices.Concat(w, wrong, []string{"zz/x.go", strings.ReplaceAll(q.text, "P", "zz")})...)
		}
	}
}

// P15.1: what is no repository is told ahead of all else, at 0.
func TestNone(t *testing.T) {
	for _, wrong := range append(wrongs(), nil) {
		for _, q := range [][]string{
			{"zz", strings.Repeat(" ", api.MaxText+1)},
			{"zz//x.go", "package zz"},
			{"zz/../x.go", "package zz"},
			{"zz", "", "zz/x.go", "package zz"},
			{"zz/x.go", "package zz", "zz/x.go", "package zz"},
			{"zz/x.go", "package zz", "a/x.go", "package a"},
			{"zz/1/2/3/x.go", "package 3"},
		} {
			refused(t, api.ErrRepo, slices.Concat(wrong, q)...)
		}
	}
	var many []string
	for i := range api.MaxFiles + 1 {
		many = append(many, "a/"+string(rune('a'+i))+".go", "package a")
	}
	refused(t, api.ErrRepo, many...)
	right(t, many[2:]...)
}

// P15.1: a circle is told ahead of a wrong main, whichever file comes first.
func TestCircleAhead(t *testing.T) {
	for _, head := range []string{"func main(x int) { }", "func main() int { return 1 }", "func main(x int) int { return x }"} {
		m := "package main; " + head
		refused(t, api.ErrCircle, "main/m.go", m, "y/x.go", "package y; import ^\"z\"", "z/x.go", "package z; import \"y\"")
		refused(t, api.ErrCircle, "a/x.go", "package a; import ^\"b\"", "b/x.go", "package b; import \"a\"", "main/m.go", m)
		refused(t, api.ErrCircle, "a/x.go", "package a; import ^\"z\"", "main/m.go", m, "z/x.go", "package z; import \"a\"")
		// The main itself is in the circle.
		refused(t, api.ErrCircle, "main/m.go", "package main; import ^\"z\"; "+head, "z/x.go", "package z; import \"main\"")
		refused(t, api.ErrCircle, "a/x.go", "package a; import ^\"main\"", "main/l.go", m, "main/m.go", "package main; import \"a\"")
	}
}

// P15.1: circles of one package and of several, of one file each.
func TestCircles(t *testing.T) {
	// A package that imports itself is refused by scope already.
	refused(t, api.ErrImport, "a/x.go", "package a; import ^\"a\"")
	refused(t, api.ErrImport, "a/x.go", "package a", "a/y.go", "package a; import ^\"a\"")
	refused(t, api.ErrImport, "a/x.go", "package a; import \"b\"; import ^\"a\"", "b/x.go", "package b; import \"a\"")
	// Two.
	refused(t, api.ErrCircle, "a/x.go", "package a; import ^\"b\"", "b/x.go", "package b; import \"a\"")
	refused(t, api.ErrCircle, "a/b/x.go", "package b; import ^\"a\"", "a/x.go", "package a; import \"a/b\"")
	refused(t, api.ErrCircle, "a/x.go", "package a", "b/x.go", "package b; import ^\"c\"", "c/x.go", "package c; import \"b\"")
	refused(t, api.ErrCircle, "a/a/x.go", "package a; import ^\"a\"", "a/x.go", "package a; import \"a/a\"")
	// Three, one way round and the other one.
	refused(t, api.ErrCircle, "a/x.go", "package a; import ^\"b\"", "b/x.go", "package b; import \"c\"", "c/x.go", "package c; import \"a\"")
	refused(t, api.ErrCircle, "a/x.go", "package a; import ^\"c\"", "b/x.go", "package b; import \"a\"", "c/x.go", "package c; import \"b\"")
	// As many as there can be.
	var ring, row []string
	for i := range api.MaxFiles {
		name, next := string(rune('a'+i)), string(rune('a'+(i+1)%api.MaxFiles))
		ring = append(ring, name+"/x.go", "package "+name+"; import \""+next+"\"")
	}
	row = slices.Clone(ring)
	ring[1] = strings.Replace(ring[1], "\"", "^\"", 1)
	refused(t, api.ErrCircle, ring...)
	row[len(row)-1] = "package p"
	w := right(t, row...)
	if !repo.Reaches(w, "a", "p") || repo.Reaches(w, "p", "a") || repo.Reaches(w, "a", "a") {
		t.Error("a row of packages")
	}
	// None: two ways to one package, and packages of one name.
	right(t, "a/x.go", "package a; import \"b\"; import \"c\"", "b/x.go", "package b; import \"d\"", "c/x.go", "package c; import \"d\"", "d/x.go", "package d")
	right(t, "a/x.go", "package a; import \"b/a\"", "b/a/x.go", "package a; import \"c/a\"", "c/a/x.go", "package a")
	right(t, "a/x.go", "package a; import \"b\"; import \"c\"; import \"d\"", "b/x.go", "package b; import \"c\"; import \"d\"", "c/x.go", "package c; import \"d\"", "d/x.go", "package d")
}

// P15.1: circles over packages of several files: it is the packages that import one another.
func TestCirclesOfFiles(t *testing.T) {
	refused(t, api.ErrCircle, "a/x.go", "package a", "a/y.go", "package a; import ^\"b\"", "b/x.go", "package b; import \"a\"", "b/y.go", "package b")
	refused(t, api.ErrCircle, "a/x.go", "package a; import ^\"b\"", "a/y.go", "package a", "b/x.go", "package b", "b/y.go", "package b; import \"a\"")
	refused(t, api.ErrCircle, "a/x.go", "package a", "a/y.go", "package a; import ^\"b\"", "b/x.go", "package b; import \"c\"", "b/y.go", "package b", "c/x.go", "package c", "c/y.go", "package c; const k = 1", "c/z.go", "package c; import \"a\"")
	// Files of another package stand between those of one.
	refused(t, api.ErrCircle, "a/a.go", "package a", "a/b/x.go", "package b; import ^\"a\"", "a/c.go", "package a; import \"a/b\"")
	refused(t, api.ErrCircle, "a/a.go", "package a; import ^\"c\"", "a/b/x.go", "package b", "a/c.go", "package a; import \"a/b\"", "c/x.go", "package c; import \"a\"")
	// Files that are not the language's are no part of a circle.
	right(t, "a/x.go", "package a; import \"b\"", "b.go", "package b; import \"a\"", "b/.go", "package b; import \"a\"", "b/x.go", "package b", "b/x.md", "package b; import \"a\"")
}

// P15.1: at which of several imports a circle is told: at the first of a package from which one comes back to itself, wherever that import itself leads.
func TestWhichImport(t *testing.T) {
	c := []string{"c/x.go", "package c"}
	// The first of the file.
	refused(t, api.ErrCircle, slices.Concat([]string{"a/x.go", "package a; import ^\"c\"; import \"b\"", "b/x.go", "package b; import \"a\""}, c)...)
	refused(t, api.ErrCircle, slices.Concat([]string{"a/x.go", "package a; import ^\"b\"; import \"c\"", "b/x.go", "package b; import \"a\""}, c)...)
	// The first of the package's files.
	refused(t, api.ErrCircle, slices.Concat([]string{"a/x.go", "package a; import ^\"c\"", "a/y.go", "package a; import \"b\"", "b/x.go", "package b; import \"a\""}, c)...)
	refused(t, api.ErrCircle, slices.Concat([]string{"a/x.go", "package a", "a/y.go", "package a; import ^\"c\"", "a/z.go", "package a; import \"b\"", "b/x.go", "package b; import \"a\""}, c)...)
	// A package that imports a circle, but is in none, is told nowhere; one that a circle imports, neither.
	refused(t, api.ErrCircle, "a/x.go", "package a; import \"b\"", "b/x.go", "package b; import ^\"c\"", "c/x.go", "package c; import \"b\"")
	refused(t, api.ErrCircle, "a/x.go", "package a; import \"b\"; import \"c\"", "b/x.go", "package b; import ^\"c\"", "c/x.go", "package c; import \"b\"", "d/x.go", "package d; import \"a\"")
	refused(t, api.ErrCircle, "a/x.go", "package a; import \"d\"", "b/x.go", "package b; import ^\"a\"; import \"c\"", "c/x.go", "package c; import \"b\"", "d/x.go", "package d")
	refused(t, api.ErrCircle, "a/x.go", "package a; import \"d\"", "b/x.go", "package b; import \"d\"", "d/x.go", "package d; import ^\"e\"", "e/x.go", "package e; import \"f\"", "f/x.go", "package f; import \"d\"")
	// Two circles at once, apart and with a package of both.
	refused(t, api.ErrCircle, "a/x.go", "package a; import ^\"b\"", "b/x.go", "package b; import \"a\"", "c/x.go", "package c; import \"d\"", "d/x.go", "package d; import \"c\"")
	refused(t, api.ErrCircle, "a/x.go", "package a; import ^\"d\"", "b/x.go", "package b; import \"c\"", "c/x.go", "package c; import \"b\"", "d/x.go", "package d; import \"a\"")
	refused(t, api.ErrCircle, "a/x.go", "package a; import \"b\"", "b/x.go", "package b; import ^\"c\"; import \"d\"", "c/x.go", "package c; import \"b\"", "d/x.go", "package d; import \"b\"")
	refused(t, api.ErrCircle, "a/x.go", "package a; import ^\"b\"", "b/x.go", "package b; import \"c\"; import \"a\"", "c/x.go", "package c; import \"b\"")
	// One that leads from one circle to the next one.
	refused(t, api.ErrCircle, "a/x.go", "package a; import ^\"c\"", "a/y.go", "package a; import \"b\"", "b/x.go", "package b; import \"a\"", "c/x.go", "package c; import \"d\"", "d/x.go", "package d; import \"c\"")
}

// P15.1: mains that take or tell something, and those that may.
func TestOneMain(t *testing.T) {
	for _, s := range []string{
		"func ^main(x int) { }",
		"func ^main(x int, y bool) { }",
		"func ^main() int { return 1 }",
		"func ^main() T { var t T; return t }; type T struct { }",
		"func ^main(x string) string { return x }",
		"type T struct { }; func (r T) main() { }; func ^main(t T) { }",
		"func f() { main(1) }; func ^main(x int) { }",
	} {
		refused(t, api.ErrMain, "main/m.go", "package main; "+s)
		refused(t, api.ErrMain, "a/b/main/m.go", "package main; "+s)
		refused(t, api.ErrMain, "main/l.go", "package main", "main/m.go", "package main; "+s, "main/n.go", "package main")
		refused(t, api.ErrMain, "a/main/m.go", "package main; func main() { }", "main/m.go", "package main; "+s, "z/main/m.go", "package main; func main(x int) { }")
		// In a package of another name it is a function as others are.
		s = strings.Replace(s, "^", "", 1)
		for _, folder := range []string{"a", "main/a", "Main", "mains", "amain", "main_"} {
			right(t, folder+"/main.go", "package "+scope.Name(folder)+"; "+s)
		}
	}
	for _, s := range []string{
		"func main() { }",
		"func main() { var x int; x = 1; println(x); return }",
		"func main() { { }; if true { return } else { main() } }",
		"type T struct { }; func (r T) main(x int) int { return x }",
		"type T struct { }; func (main T) main(x int) int { return x }; func main() { }",
		"func Main(x int) int { return x }; func mai() int { return 1 }; func main_(x int) { }; func amain(x int) { }",
		"const main = 1",
		"var main int",
		"type main struct { main int }; func f(main int) int { return main }",
		"func f(main int) int { return main }; func g() { main := 1; println(main) }",
	} {
		right(t, "main/m.go", "package main; "+s)
		right(t, "a/b/main/m.go", "package main; "+s, "main/l.go", "package main", "main/m.go", "package main; "+s)
	}
	// In files that are not the language's there is none.
	right(t, "main.go", "package main; func main(x int) { }", "main/.go", "package main; func main(x int) { }", "main/m", "package main; func main(x int) { }")
}

// P15.1: of several wrong mains the first one, file by file.
func TestMains(t *testing.T) {
	refused(t, api.ErrMain, "a/main/m.go", "package main; func ^main(x int) { }", "main/m.go", "package main; func main() int { return 1 }")
	refused(t, api.ErrMain, "a/main/m.go", "package main; func ^main() int { return 1 }", "main/m.go", "package main; func main(x int) { }")
	refused(t, api.ErrMain, "a/main/l.go", "package main", "a/main/m.go", "package main; func f(x int) { }; func ^main(x int) { }", "main/l.go", "package main; func main(x int) { }", "main/m.go", "package main")
	refused(t, api.ErrMain, "main/a/main/m.go", "package main; func ^main(x int) { }", "main/m.go", "package main; func main(x int) { }")
	refused(t, api.ErrMain, "main/a.go", "package main; func ^main(x int) { }", "main/a/main/m.go", "package main; func main(x int) { }")
	// Two of one package are refused by scope already.
	refused(t, api.ErrTwice, "main/a.go", "package main; func main(x int) { }", "main/m.go", "package main; func ^main() int { return 1 }")
	right(t, "a/main/m.go", "package main; func main() { }", "a/x.go", "package a; func main(x int) { }", "main/m.go", "package main; func main() { }")
}
