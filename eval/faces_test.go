package eval_test

import (
	"slices"
	"testing"

	"shipwright/api"
	"shipwright/eval"
)

// odd are programs that are not right: such as nobody reads, and such as have something wrong in them.
func odd(t *testing.T) []api.Program {
	right := func() api.Program { return mustRead(t, made("a/x.go", inMain("println(1)"))) }
	list := make([]api.Program, 8)
	for i := range list {
		list[i] = right()
	}
	list[0].Trees = nil
	list[1].Trees = append(list[1].Trees, api.Tree{})
	list[2].Trees[0].Nodes = nil
	list[3].Trees[0].Nodes[1].Kids = []int{-1, 99}
	list[4].Trees[0].Nodes[1].Text = "other"
	list[5].Repo.Files[0].Text = "package a"
	list[6].Repo.Files[0].Path = "a/x"
	list[7].Repo.Files = nil
	for _, text := range []string{"println(x)", "println(true + 1)", "v := 1\nv := 2", "return 1", "var v t\nprintln(v == v)", "var v t\nprintln(v)", "println()", "1"} {
		list = append(list, mustRead(t, made("a/x.go", inMain(text, "type t struct { n int }"))))
	}
	return append(list,
		api.Program{Trees: []api.Tree{{}}},
		mustRead(t, made("a/x.go", inMain(""), "b/x.go", "package c")),
		mustRead(t, made("a/x.go", inMain(""), "b/x.go", "package b\nvar x int = y")))
}

// P16.1, P16.2: of what types finds wrong Run and Mains are ErrArg, whatever else there is.
func TestErrArg(t *testing.T) {
	for _, p := range odd(t) {
		for _, folder := range []string{"a", "b", "", "none"} {
			for _, args := range [][]int64{nil, make([]int64, api.MaxArgs), make([]int64, api.MaxArgs+1), make([]int64, 1000)} {
				refused(t, api.ErrArg, p, folder, args...)
			}
		}
		if list, err := eval.Mains(p); len(list) > 0 || err != api.ErrArg {
			t.Errorf("Mains(%q): %q, %d", p.Repo.Files, list, err)
		}
	}
}

// P16.1: no more than MaxArgs inputs, ahead of ErrNone.
func TestErrLong(t *testing.T) {
	p := mustRead(t, made("a/x.go", inMain("println(arg(7))\nprintln(arg(8))")))
	args := []int64{1, 2, 3, 4, 5, 6, 7, 8, 9, 10}
	if r, err := check(t, p, "a", args[:api.MaxArgs]...); err != api.OK || r.Out != "8\n0\n" {
		t.Errorf("MaxArgs inputs: %+v, %d", r, err)
	}
	for n := api.MaxArgs + 1; n <= len(args); n++ {
		refused(t, api.ErrLong, p, "a", args[:n]...)
		refused(t, api.ErrLong, p, "b", args[:n]...)
		refused(t, api.ErrLong, p, "", args[:n]...)
	}
	refused(t, api.ErrLong, mustRead(t, api.Repo{}), "a", args...)
}

// mains are packages, and other files; some of the packages have a main with which a run begins.
func mains() api.Repo {
	return made(
		"README", "func main() { }",
		"a/b/x.go", "package b\nfunc main() { println(\"a/b\") }", // ahead of a/x.go, as a/b is behind a
		"a/p/x.go", "package p\nfunc f() { main() }",
		"a/p/y.go", "package p\nfunc main() { println(\"a/p\") }",
		"a/x.go", "package a\nfunc f() { }\nfunc main() { return }\nfunc g() { }",
		"a/x.txt", "func main() { }",
		"b/c/d/x.go", "package d\nfunc Main() { }\nfunc mains() { }\nfunc mai() { }",
		"b/x.go", "package b\nfunc main(x int) { }",
		"c/x.go", "package c\nfunc main() int { return 1 }",
		"d/x.go", "package d\nvar main int",
		"e/x.go", "package e\nconst main = 1",
		"f/x.go", "package f\ntype main struct { }\nfunc (main main) main() { }",
		"g/x.go", "package g\ntype t struct { }\nfunc (r t) main() { }",
		"h/x.go", "package h\ntype t struct { main int }\nfunc f(main int) { main = 1; { main := 2; main = 3 } }",
		"main/x.go", "package main\nfunc main() { println(\"main\") }\ntype t struct { }\nfunc (r t) main(x int) int { return x }",
	)
}

// P16.1: ErrNone of a package that is not there, and of one that has no such main; the others are run.
func TestErrNone(t *testing.T) {
	p := mustRead(t, mains())
	for _, folder := range []string{"b/c/d", "b", "c", "d", "e", "f", "g", "h", "", "/", "none", "a/", "/a", "a/x.go", "x", "a/b/x", "p", "A", "main/main", "main.go"} {
		refused(t, api.ErrNone, p, folder, 1)
		refused(t, api.ErrNone, p, folder, make([]int64, api.MaxArgs)...)
	}
	for folder, out := range map[string]string{"a": "", "a/b": "a/b\n", "a/p": "a/p\n", "main": "main\n"} {
		if r, err := check(t, p, folder); err != api.OK || r.End != api.EndDone || r.Out != out {
			t.Errorf("Run of %q: %+v, %d", folder, r, err)
		}
	}
	refused(t, api.ErrNone, mustRead(t, api.Repo{}), "")
	refused(t, api.ErrNone, mustRead(t, made("README", "func main() { }", "x.go", "package x\nfunc main() { }")), "")
}

// P16.1: the mains of several packages each run their own; packages that import one another in a circle may be run.
func TestTwoMains(t *testing.T) {
	p := mustRead(t, made(
		"a/x.go", "package a\nimport \"b\"\nfunc main() { println(b.N + 1) }\nfunc F() { main() }",
		"b/x.go", "package b\nimport \"a\"\nvar N int = 4\nfunc main() { println(N); a.F() }"))
	if r, err := check(t, p, "a"); err != api.OK || r != (api.Ran{End: api.EndDone, Out: "5\n", Steps: 2}) {
		t.Errorf("a: %+v, %d", r, err)
	}
	if r, err := check(t, p, "b"); err != api.OK || r != (api.Ran{End: api.EndDone, Out: "4\n5\n", Steps: 7}) {
		t.Errorf("b: %+v, %d", r, err)
	}
}

// P16.2: the folders of packages that have such a main, rising.
func TestMains(t *testing.T) {
	p := mustRead(t, mains())
	if list, err := eval.Mains(p); err != api.OK || !slices.Equal(list, []string{"a", "a/b", "a/p", "main"}) || !slices.Equal(list, wantMains(p)) {
		t.Errorf("Mains: %q, %d", list, err)
	}
	for _, r := range []api.Repo{{}, made("README", "x"), made("a/x.go", "package a"), made("x.go", "package x\nfunc main() { }")} {
		if list, err := eval.Mains(mustRead(t, r)); err != api.OK || len(list) > 0 {
			t.Errorf("Mains(%q): %q, %d", r.Files, list, err)
		}
	}
}

// P16.2: runs are alike that ended so, printed that and gave up for that; their steps are not asked.
func TestAlike(t *testing.T) {
	all := []api.Ran{
		{},
		{End: api.EndDone},
		{End: api.EndDone, Out: "1\n"},
		{End: api.EndDone, Out: "1\n\n"},
		{End: api.EndSteps, Out: "1\n"},
		{End: api.EndOut, Out: "1\n"},
		{End: api.EndPanic, Out: "1\n"},
		{End: api.EndPanic, Out: "1\n", Why: "long"},
		{End: api.EndPanic, Out: "1\n", Why: "longer"},
		{End: api.EndPanic, Out: "long", Why: "1\n"},
		{End: -1, Why: "x"},
	}
	for i, a := range all {
		for j, b := range all {
			for steps := range 3 {
				a.Steps, b.Steps = 5, 4+steps
				if eval.Alike(a, b) != (i == j) {
					t.Errorf("Alike(%+v, %+v): %t", a, b, i != j)
				}
			}
		}
	}
}
