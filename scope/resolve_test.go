package scope_test

import (
	"slices"
	"strings"
	"testing"

	"shipwright/api"
	"shipwright/scope"
)

// P13.2: the chapter's examples.
func TestExamples(t *testing.T) {
	refused(t, api.ErrTwice, "a/x.go", "package a; var v int; func F(v int) int { var ^v int = v; return v }")
	refused(t, api.ErrTwice, "a/x.go", "package a; var v int; func F(v int) int { ^v := v; return v }")
	meant(t, "a/x.go", "package a; var v int; func F(v#l1 int) int { if true { v#l2 := v@l1 + 1; println@b1(v@l2) }; return v@l1 }")
	a := "package a; var v int; func F#t1(v#l1 int) int { return v@l1 }; func f() { }"
	meant(t, "a/x.go", a, "b/x.go", "package b; import \"a\"#i1; func g() int { return a@i1.F@t1(1) }")
	a = "package a; var v int; func F(v int) int { return v }; func f() { }"
	refused(t, api.ErrHidden, "a/x.go", a, "b/x.go", "package b; import \"a\"; func g() int { return a.^f(1) }")
	refused(t, api.ErrUnknown, "a/x.go", a, "b/x.go", "package b; import \"a\"; func g() int { return a.^G(1) }")
	refused(t, api.ErrAlone, "a/x.go", a, "b/x.go", "package b; import \"a\"; func g() int { return ^a }")
}

// P13.2: File and Node of uses, said by numbers.
func TestNumbers(t *testing.T) {
	p := mustRead(t, repo("a/m.md", "", "a/x.go", "package a; import \"b\"; func f(v b.T) int { w := v; return len(w.s) + k + b.K }", "a/y.go", "package a; const k = 1", "b/x.go", "package b; const K = 2; type T struct { s string }"))
	s, e := scope.Resolve(p)
	if e != (api.Place{}) {
		t.Fatal(e)
	}
	want := map[int]api.Use{
		4:  {Kind: api.UseTop, File: 3, Node: 3},     // b.T
		9:  {Kind: api.UseLocal, File: 1, Node: 3},   // v
		14: {Kind: api.UseBuiltin, File: 0, Node: 2}, // len
		16: {Kind: api.UseLocal, File: 1, Node: 8},   // w
		17: {Kind: api.UseTop, File: 2, Node: 1},     // k
		18: {Kind: api.UseTop, File: 3, Node: 1},     // b.K
		19: {Kind: api.UseImport, File: 1, Node: 1},  // b
	}
	if len(s.Uses) != 4 || len(s.Uses[0]) != 0 || len(s.Uses[1]) != 20 || len(s.Uses[2]) != 3 || len(s.Uses[3]) != 6 {
		t.Fatalf("uses: %v", s.Uses)
	}
	for i, list := range s.Uses {
		for j, u := range list {
			if i == 1 && u != want[j] || i != 1 && u != (api.Use{}) {
				t.Errorf("file %d, node %d: %v", i, j, u)
			}
		}
	}
}

// P13.2: NodeFile.
func TestClause(t *testing.T) {
	refused(t, api.ErrClause, "a/x.go", "package ^b")
	refused(t, api.ErrClause, "a/x.go", "\n package ^A; const k = 1; const k = 2")
	refused(t, api.ErrClause, "b/a/x.go", "package ^b")
	refused(t, api.ErrClause, "b/a/x.go", "package ^x")
	refused(t, api.ErrClause, "a-b/x.go", "package ^a")
	refused(t, api.ErrClause, "a/x.go", "package a", "a/y.go", "package ^b", "b/x.go", "package a")
	meant(t, "a/x.go", "package a", "b/a/y.go", "package a", "c.d/e/f/y.go", "package f", "x.go", "package q", "y/.go", "package q")
	// What it declares is its folder's, all the same.
	refused(t, api.ErrUnknown, "a/x.go", "package a; var v int = ^k", "b/x.go", "package a; const k = 1")
	refused(t, api.ErrClause, "a/x.go", "package a; var v int = k", "a/y.go", "package ^b; const k = 1")
}

// P13.2: NodeImport.
func TestImports(t *testing.T) {
	b, d := "package b; const K = 1", "package b; const L = 2"
	refused(t, api.ErrImport, "a/x.go", "package a; import ^\"q\"")
	refused(t, api.ErrImport, "a/x.go", "package a; import ^\"\"")
	refused(t, api.ErrImport, "a/x.go", "package a; import ^\"b/x.go\"", "b/x.go", b)
	refused(t, api.ErrImport, "a/x.go", "package a; import ^\"b/\"", "b/x.go", b)
	refused(t, api.ErrImport, "a/x.go", "package a; import ^\"c\"", "c/b/x.go", b)
	refused(t, api.ErrImport, "a/x.go", "package a; import ^\"b\"", "c/b/x.go", b)
	refused(t, api.ErrImport, "a/x.go", "package a; import ^\"b\"", "b/x.md", b)
	refused(t, api.ErrImport, "a/x.go", "package a; import ^\"b\"", "b/.go", b)
	refused(t, api.ErrImport, "a/x.go", "package a; import ^\"b.go\"", "b.go", b)
	refused(t, api.ErrImport, "a/x.go", "package a; import ^\"a\"")
	refused(t, api.ErrImport, "a/x.go", "package a; import ^\"a\"", "a/y.go", "package a")
	refused(t, api.ErrImport, "a/x.go", "package a; import \"b\"; import ^\"q/b\"; import \"q\"", "b/x.go", b)
	refused(t, api.ErrTwice, "a/x.go", "package a; import \"b\"; import ^\"b\"", "b/x.go", b)
	refused(t, api.ErrTwice, "a/x.go", "package a; import \"b\"; import ^\"c/b\"; import \"q\"", "b/x.go", b, "c/b/x.go", d)
	refused(t, api.ErrTwice, "a/x.go", "package a; import ^\"b\"; const b = 1", "b/x.go", b)
	refused(t, api.ErrTwice, "a/x.go", "package a; import ^\"b\"; var b int", "b/x.go", b)
	refused(t, api.ErrTwice, "a/x.go", "package a; import ^\"b\"; type b struct { }", "b/x.go", b)
	refused(t, api.ErrTwice, "a/x.go", "package a; import ^\"b\"; func b() { }", "b/x.go", b)
	refused(t, api.ErrTwice, "a/x.go", "package a; const b = 1", "a/y.go", "package a; import ^\"b\"", "b/x.go", b)
	refused(t, api.ErrTwice, "a/x.go", "package a; import ^\"b\"", "a/y.go", "package a; const b = 1", "b/x.go", b)
	refused(t, api.ErrTwice, "a/x.go", "package a; import ^\"c/b\"", "a/y.go", "package a; const b = 1", "c/b/x.go", b)
	// ErrImport is named ahead of ErrTwice.
	refused(t, api.ErrImport, "a/x.go", "package a; import ^\"q\"; const q = 1")
	refused(t, api.ErrImport, "a/x.go", "package a; import ^\"a\"; const a = 1")
	refused(t, api.ErrImport, "b/a/x.go", "package a; import \"b/c\"; import ^\"q/c\"", "b/c/x.go", "package c")
	// What stands in the way of nothing.
	meant(t, "a/x.go", "package a; import \"b\"", "a/y.go", "package a; import \"b\"", "b/x.go", b)
	meant(t, "a/x.go", "package a; import \"b\"#i1; var v int = b@i1.K@t1", "a/y.go", "package a; import \"c/b\"#i2; var w int = b@i2.L@t2",
		"b/x.go", "package b; const K#t1 = 1", "c/b/x.go", "package b; const L#t2 = 2")
	meant(t, "a/x.go", "package a; import \"b\"", "b/x.go", "package b; import \"a\"; const b = 1")
	meant(t, "a/x.go", "package a; import \"b/a\"#i1; var v int = a@i1.K@t1", "b/a/x.go", "package a; import \"a\"; const K#t1 = 1")
	meant(t, "a/x.go", "package a; import \"b\"; type T#t1 struct { b int }; func (b T@t1) m(c int) { }; func (c#l1 T@t1) b() { b := c@l1 }", "b/x.go", "package b")
}

// P13.2: declarations of a package that are there already.
func TestTwiceTop(t *testing.T) {
	decls := []string{"const ^k = 1", "var ^k int", "type ^k struct { }", "func ^k() { }"}
	for _, one := range decls {
		first := strings.ReplaceAll(one, "^", "")
		for _, two := range decls {
			refused(t, api.ErrTwice, "a/x.go", "package a; "+first+"; const j = 1; "+two+"; "+first)
			refused(t, api.ErrTwice, "a/x.go", "package a; const j = 1; "+first, "a/y.go", "package a; "+two)
			refused(t, api.ErrTwice, "a/x.go", "package a; "+first, "b/x.go", "package b; "+first, "b/y.go", "package b; "+two, "c", "")
		}
		meant(t, "a/x.go", "package a; "+first, "b/a/x.go", "package a; "+first, "c/x.go", "package c; "+first)
	}
	// Methods are no declarations of the package: not twice, and not ahead of one.
	meant(t, "a/x.go", "package a; type T#t1 struct { m int }; func (r T@t1) m() { }; func (r T@t1) m() { }; func m() { }; func (r T@t1) m() { }; func (r T@t1) T() { }")
	refused(t, api.ErrTwice, "a/x.go", "package a; type T struct { }; func (r T) m() { }; func m() { }; func ^m() { }")
	meant(t, "a/x.go", "package a; const println = 1; func len() { }; type arg#t1 struct { x arg@t1 }; var panic int")
	meant(t, "a/x.go", "package a; const a = 1; func f(f int) { a := 1 }")
}

// P13.2: names of functions' and blocks' scopes that are there already.
func TestTwiceLocal(t *testing.T) {
	for _, s := range []string{
		"func f(x int, ^x int) { }",
		"func f(x int, y int, ^x T) { }",
		"func (x T) f(^x int) { }",
		"func (x T) f(y int, ^x int) { }",
		"func (x T) f() { ^x := 1 }",
		"func (x T) f() { var ^x int }",
		"func f(x int) { ^x := 1 }",
		"func f(x int) { var ^x int = q }",
		"func f(x int) { y := 1; ^x := q }",
		"func f() { x := 1; ^x := 1 }",
		"func f() { x := 1; var ^x q }",
		"func f() { var x int; ^x := 1 }",
		"func f() { var x int; y := 1; var ^x int; z := q }",
		"func f() { { x := 1; ^x := 1 } }",
		"func f(x int) { { x := 1; var ^x int } }",
		"func f(x int) { if x == 1 { x := 1; { var x int }; ^x := 1 } }",
		"func f() { if true { } else { x := 1; ^x := 1 } }",
		"func f() { if true { } else if true { x := 1; ^x := 1 } }",
		"func f() { for true { x := 1; ^x := 1 } }",
		"func f() { { x := 1 }; x := 1; { x := 1 }; ^x := 1 }",
		"func f() { { { x := 1 }; x := 1; ^x := 1 } }",
		"func (x T) f(^x x) { x := 1; x := 2 }",
	} {
		refused(t, api.ErrTwice, "a/x.go", "package a; type T struct { }; "+s)
	}
	for _, s := range []string{
		"func f(x int) { { x := 1 }; { x := 1 }; if true { x := 1 } else { x := 1 } }",
		"func f(x int) { for true { x := 1; { x := 1; { var x int } } }; for true { var x int } }",
		"func (x T@t1) f(y int) { { var x int; var y int } }",
		"func f(f int) { { f := 1 } }",
		"func f() { x := 1 }; func g(x int) { }; func (x T@t1) g() { }; func h() { var x int }",
		"func f() { { x := 1 }; { { x := 1 }; x := 1 }; x := 1 }",
		"func f() { if true { x := 1 } else if true { x := 1 } else { x := 1 }; x := 1 }",
		"func f(T int) { { T := 1 } }; func (T T@t1) g() { }",
	} {
		meant(t, "a/x.go", "package a; type T#t1 struct { }; "+s)
	}
}

// P13.2: fields that are there already.
func TestTwiceField(t *testing.T) {
	refused(t, api.ErrTwice, "a/x.go", "package a; type T struct { x int; ^x int }")
	refused(t, api.ErrTwice, "a/x.go", "package a; type T struct { x int; y T; ^x q; y int }")
	refused(t, api.ErrTwice, "a/x.go", "package a; type S struct { x int }; type T struct { y int; x int; ^x int }")
	meant(t, "a/x.go", "package a; const x = 1; type T#t1 struct { x int; X int; T int; int_ T@t1; y T@t1 }; type S struct { x int; y int }")
}

// P13.2: names that mean nothing, are no values, or no types; each node's errors.
func TestNameWrong(t *testing.T) {
	b := "package b; const K = 1; var V int; type T struct { }; func F() { }; const k = 1; var v int; type s struct { }; func f() { }; func (r T) M() { }; func (r T) m() { }"
	for _, q := range []struct {
		err  api.Errno
		text string
	}{
		{api.ErrUnknown, "var v int = ^q"},
		{api.ErrUnknown, "var v int = ^q.x"},
		{api.ErrUnknown, "var v int = ^q.x.y"},
		{api.ErrUnknown, "func f() { ^q() }"},
		{api.ErrUnknown, "func f() { ^q = 1 }"},
		{api.ErrUnknown, "func f() { f = ^q }"},
		{api.ErrUnknown, "func f() { x := ^x }"},
		{api.ErrUnknown, "func f() { var x int = ^x }"},
		{api.ErrUnknown, "func f() { f(^x); x := 1 }"},
		{api.ErrUnknown, "func f() { { x := 1 }; f(^x) }"},
		{api.ErrUnknown, "func f() { if true { x := 1 } else { f(^x) } }"},
		{api.ErrUnknown, "func f() { if true { x := 1 } else if ^x { } }"},
		{api.ErrUnknown, "func f() { for ^x { x := 1 } }"},
		{api.ErrUnknown, "func f(x int) { }; func g() { f(^x) }"},
		{api.ErrUnknown, "func (x T) f() { }; func g() { g(^x) }; type T struct { }"},
		{api.ErrUnknown, "func (x T) m() { ^m() }; type T struct { m int }"},
		{api.ErrUnknown, "func f() { return ^x }"},
		{api.ErrUnknown, "func f() { -f(!^x) }"},
		{api.ErrUnknown, "func f() { f == f + ^K }"},
		{api.ErrUnknown, "var v ^q"},
		{api.ErrUnknown, "var v ^println"},
		{api.ErrUnknown, "var v ^b"},
		{api.ErrUnknown, "var v ^T"},
		{api.ErrUnknown, "type S struct { x S; y ^T }"},
		{api.ErrUnknown, "func f(x ^T) { }"},
		{api.ErrUnknown, "func f() ^T { }"},
		{api.ErrUnknown, "func (r ^T) f() { }"},
		{api.ErrUnknown, "func f() { var v ^T }"},
		{api.ErrUnknown, "func f(T int) { var v ^T }"},
		{api.ErrUnknown, "func f(T int) { { T := 1; var v ^T } }"},
		{api.ErrUnknown, "var v q.^T"},
		{api.ErrUnknown, "var v c.^T"},
		{api.ErrUnknown, "func f(q int) { var v q.^T }"},
		{api.ErrUnknown, "const q = 1; var v q.^T"},
		{api.ErrUnknown, "var v b.^Q"},
		{api.ErrUnknown, "var v b.^q"},
		{api.ErrUnknown, "var v b.^M"},
		{api.ErrUnknown, "var v b.^b"},
		{api.ErrUnknown, "var v println.^T"},
		{api.ErrUnknown, "const a = 1; var v a.^T"},
		{api.ErrUnknown, "func f() { b.^Q() }"},
		{api.ErrUnknown, "func f() { b.^q.x = 1 }"},
		{api.ErrUnknown, "func f() { b.^M() }"},
		{api.ErrUnknown, "func f() { b.^m() }"},
		{api.ErrUnknown, "func f() { b.^b() }"},
		{api.ErrUnknown, "func f() { b.^println(1) }"},
		{api.ErrUnknown, "func f() { (b).^Q }"},
		{api.ErrUnknown, "var x int = b.^x; const X = 1"},
		{api.ErrUnknown, "var x int = b.^X; const X = 1"},
		{api.ErrHidden, "func f() { b.^k }"},
		{api.ErrHidden, "func f() { b.^v = 1 }"},
		{api.ErrHidden, "func f() { b.^f() }"},
		{api.ErrHidden, "func f() { b.^s.x }"},
		{api.ErrHidden, "var v b.^s"},
		{api.ErrHidden, "var v b.^k"},
		{api.ErrHidden, "var v b.^f"},
		{api.ErrHidden, "type S struct { x b.^s }"},
		{api.ErrHidden, "func f(b int) b.^v { }"},
		{api.ErrAlone, "var x int = ^b"},
		{api.ErrAlone, "var x int = -^b"},
		{api.ErrAlone, "func f() { ^b() }"},
		{api.ErrAlone, "func f() { ^b().x }"},
		{api.ErrAlone, "func f() { f(^b) }"},
		{api.ErrAlone, "func f() { (^b) }"},
		{api.ErrAlone, "func f() { ^b = b.V }"},
		{api.ErrAlone, "func f() { b.V = ^b }"},
		{api.ErrAlone, "func f() { b := ^b }"},
		{api.ErrAlone, "func f() { var b int = ^b }"},
		{api.ErrAlone, "func f() { { b := 1 }; if ^b { } }"},
		{api.ErrAlone, "func f() { b.K + ^b }"},
		{api.ErrKind, "const k = 1; var v ^k"},
		{api.ErrKind, "var v ^v"},
		{api.ErrKind, "func f(x ^f) { }"},
		{api.ErrKind, "const k = 1; func f() ^k { }"},
		{api.ErrKind, "func (r ^f) m() { }; func f() { }"},
		{api.ErrKind, "type S struct { x ^k }; const k = 1"},
		{api.ErrKind, "func f() { var x ^f }"},
		{api.ErrKind, "var v b.^K"},
		{api.ErrKind, "var v b.^V"},
		{api.ErrKind, "func f() b.^F { }"},
		{api.ErrKind, "type S struct { x b.^F }"},
	} {
		refused(t, q.err, "a/x.go", "package a; import \"b\"; "+q.text, "b/x.go", b, "c/x.go", "package c; type T struct { }")
	}
	// What another file declares counts; what it imports does not.
	refused(t, api.ErrKind, "a/x.go", "package a; var v ^k", "a/y.go", "package a; const k = 1")
	refused(t, api.ErrKind, "a/x.go", "package a; var v ^k", "a/y.go", "package a; const k = 1", "a/z.go", "package a; type k struct { }")
	refused(t, api.ErrUnknown, "a/x.go", "package a; var v b.^T", "a/y.go", "package a; import \"b\"", "b/x.go", b)
	refused(t, api.ErrUnknown, "a/x.go", "package a; var v int = ^b.K", "a/y.go", "package a; import \"b\"", "b/x.go", b)
	refused(t, api.ErrUnknown, "a/x.go", "package a; import \"b\"; var v int = b.K", "b/x.go", b+"; var w int = ^a.v")
	// An import's package is its folder's, not all of that name.
	refused(t, api.ErrUnknown, "a/x.go", "package a; import \"c/b\"; var v int = b.^K", "b/x.go", b, "c/b/x.go", "package b")
	refused(t, api.ErrUnknown, "a/x.go", "package a; import \"b\"; var v int = b.^L", "b/x.go", b, "c/b/x.go", "package b; const L = 1")
}

// P13.2: which error is told first.
func TestFirst(t *testing.T) {
	for _, q := range []struct {
		err  api.Errno
		text string
	}{
		{api.ErrClause, "package ^b; import \"q\"; const k = 1; const k = 1"},
		{api.ErrImport, "package a; import ^\"q\"; const k = 1; const k = 1; var v q"},
		{api.ErrUnknown, "package a; var v ^q = r; const v = 1"},
		{api.ErrTwice, "package a; const v = 1; var ^v q = r"},
		{api.ErrTwice, "package a; const f = 1; func ^f(x int, x int) q { y }"},
		{api.ErrUnknown, "package a; func f(x ^q, x int) { }"},
		{api.ErrTwice, "package a; func f(x int, ^x q) { y }"},
		{api.ErrUnknown, "package a; func f() ^q { y }"},
		{api.ErrUnknown, "package a; func (r ^q) f(r int) { }"},
		{api.ErrUnknown, "package a; type t struct { x ^q; x int }"},
		{api.ErrTwice, "package a; type t struct { x int; ^x q }"},
		{api.ErrUnknown, "package a; func f() { x := ^y; x := 1 }"},
		{api.ErrTwice, "package a; func f() { x := 1; ^x := y }"},
		{api.ErrUnknown, "package a; func f() { var x ^q = y }"},
		{api.ErrUnknown, "package a; func f() { f(^y, z) }"},
		{api.ErrUnknown, "package a; func f() { ^y(z) }"},
		{api.ErrUnknown, "package a; func f() { ^y + z }"},
		{api.ErrUnknown, "package a; func f() { if ^x { y } else { z } }"},
		{api.ErrUnknown, "package a; func f() { if true { ^y } else { z } }"},
		{api.ErrUnknown, "package a; func f() { { ^y }; z }"},
		{api.ErrUnknown, "package a; func f() { ^y = z }; const f = 1"},
		{api.ErrTwice, "package a; const f = 1; const ^f = 2; func g() { x }"},
		{api.ErrKind, "package a; var v ^v = x; var v int"},
	} {
		refused(t, q.err, "a/x.go", q.text, "a/y.go", "package q", "b/x.go", "package q")
		refused(t, q.err, "0/x.md", "none", "a/x.go", q.text)
		refused(t, api.ErrUnknown, "0/_/x.go", "package _; var v int = ^q", "a/x.go", strings.ReplaceAll(q.text, "^", ""))
	}
	b := "package b; const k = 1; type s struct { }"
	// A NodeDot and a NodeFar stand ahead of their kids, and of what they are handed.
	refused(t, api.ErrHidden, "a/x.go", "package a; import \"b\"; func f() { b.^k(q) }", "b/x.go", b)
	refused(t, api.ErrHidden, "a/x.go", "package a; import \"b\"; func f(x b.^s, x int) { }", "b/x.go", b)
	refused(t, api.ErrHidden, "a/x.go", "package a; import \"b\"; func f() { b.^k + b }", "b/x.go", b)
	refused(t, api.ErrAlone, "a/x.go", "package a; import \"b\"; func f() { ^b + b.k }", "b/x.go", b)
	refused(t, api.ErrTwice, "a/x.go", "package a; import \"b\"; func f(x int, ^x b.s) { }", "b/x.go", b)
	// File by file: what is wrong further ahead in another file waits.
	refused(t, api.ErrUnknown, "a/x.go", "package a; const k = 1; var v int = -(-(1 + ^q))", "a/y.go", "package b", "b/x.go", "package a")
	refused(t, api.ErrClause, "a/x.go", "package a; const k = 1", "a/y.go", "package ^b; const k = 1", "a/z.go", "package a; const k = 1")
	refused(t, api.ErrTwice, "a/x.go", "package a; import \"b\"; const k = 1", "a/y.go", "package a; const ^k = 1", "b/x.go", "package c")
}

// P13.2: a name in each kind of scope, with the same name further out.
func TestScopes(t *testing.T) {
	for _, s := range []string{
		"func f() { println@b1(len@b2, arg@b3, panic@b4) }",
		"var v#t1 int; func f() { v@t1 = v@t1 }",
		"var v int; func f(v#l1 int) { v@l1 = v@l1 }",
		"var v int; func (v#l1 T@t) f() { v@l1 = v@l1.v }",
		"var v#t1 int; func f() { v#l1 := v@t1; v@l1 = v@l1 }",
		"var v#t1 int; func f() { v@t1 = 1; var v#l1 int = v@t1; v@l1 = v@l1 }",
		"var v#t1 int; func f() { v@t1 = 1; { v@t1 = 1; v#l1 := v@t1; v@l1 = 1 }; v@t1 = 1 }",
		"func f(v#l1 int) { { v#l2 := v@l1; { var v#l3 int = v@l2; v@l3 = 1 }; v@l2 = 1 }; v@l1 = 1 }",
		"func f(v#l1 int) { if v@l1 { v#l2 := v@l1; v@l2 = 1 } else { v@l1 = 1 }; v@l1 = 1 }",
		"func f(v#l1 int) { if v@l1 { v := 1 } else if v@l1 { v#l2 := 1; v@l2 = 1 } else { var v#l3 int; v@l3 = 1 }; v@l1 = 1 }",
		"func f(v#l1 int) { for v@l1 { v@l1 = 1; v#l2 := v@l1; v@l2 = 1 }; v@l1 = 1 }",
		"func f() { v#l1 := 1; g := v@l1; { { v@l1 = 1 } }; return v@l1 }",
		"func f(x#l1 int, y#l2 int) int { z#l3 := x@l1 + y@l2; return z@l3 * x@l1 }",
		"func (r#l1 T@t) f(x#l2 int) int { return r@l1.x + x@l2 + r@l1.f(x@l2).r }",
		"func f#t1() { f@t1(); f#l1 := f@t1; f@l1() }",
		"func f(x int) { }; func g(y int) { }; func h#t1(x#l1 int) { h@t1(x@l1) }",
		"const a#t1 = 1; func f() int { return a@t1 }",
		"var x#t1 int = x@t1; var y#t2 int = z@t3; var z#t3 int = y@t2",
		"func f() int { return -k@t1 + (k@t1 - 1) }; const k#t1 = 1",
		"func f() { k@t1.x.y(k@t1).z = !k@t1.w }; const k#t1 = 1",
		// A built-in name, declared anew.
		"const len#t1 = 1; func f() { println@b1(len@t1) }",
		"func println#t1() { println@t1(len@b2) }",
		"func f(len#l1 int) { { panic#l2 := len@l1; panic@l2(arg@b3) }; panic@b4(len@l1) }",
		"func f() { arg#l1 := arg@b3(1); arg@l1 = 1 }",
	} {
		meant(t, "a/x.go", "package a; type T#t struct { }; "+s)
	}
	meant(t, "a/x.go", "package a; var v int = k@t1 + f@t2(w@t3)", "a/y.go", "package a; const k#t1 = 1; func f#t2(k#l1 int) int { return k@l1 + g@t4() }", "a/z.go", "package a; var w#t3 int; func g#t4() int { return k@t1 }")
	meant(t, "a/x.go", "package a; import \"len\"#i1; var v int = len@i1.K@t1", "a/y.go", "package a; var w int = len@b2", "len/x.go", "package len; const K#t1 = 1; var v int = len@b2")
}

// P13.2: names of types, wherever they stand, and locals of the same name.
func TestTypes(t *testing.T) {
	for _, s := range []string{
		"var v T@t1",
		"type S#t2 struct { x T@t1; y S@t2; z int }",
		"func f(x T@t1, y bool) T@t1 { var z#l1 T@t1; { var w T@t1 = z@l1 } }",
		"func (x T@t1) f() string { }",
		"func f(T int) { var v T@t1 }",
		"func f(T#l1 T@t1, U T@t1) T@t1 { var v T@t1 = T@l1; { T#l2 := T@l1; var w T@t1 = T@l2 } }",
		"func f() { var T#l1 T@t1; var U T@t1 = T@l1 }",
		"func (T#l1 T@t1) f() T@t1 { return T@l1 }",
		"func f() { T@t1(1); T#l1 := T@t1; T@l1 = 1 }",
	} {
		meant(t, "a/x.go", "package a; type T#t1 struct { }; "+s)
		meant(t, "a/x.go", "package a; "+s, "a/y.go", "package a; type T#t1 struct { }")
	}
	meant(t, "a/x.go", "package a; type println#t1 struct { }; var v println@t1; func f() { println@t1(1) }")
}

// P13.2: NodeFar and NodeDot of imports, and of locals that hide one.
func TestFar(t *testing.T) {
	b := "package b; const K#t1 = 1; var V#t2 int; type T#t4 struct { X int }; func F#t3() { }; type k struct { }; func (r T@t4) M() { }"
	for _, s := range []string{
		"var v int = b@i.K@t1 + b@i.V@t2",
		"func f() { b@i.F@t3(); b@i.V@t2 = b@i.T@t4; (b@i).V@t2.x = ((b@i.V@t2)).y(b@i.K@t1) }",
		"func f() { -b@i.F@t3().x; !b@i.K@t1 }",
		"var v b.T@t4",
		"type S struct { x b.T@t4; y int; z b.T@t4 }",
		"func f(x b.T@t4) b.T@t4 { var y b.T@t4 = b@i.T@t4 }",
		"func f(b#l1 int) { b@l1.K = b@l1; var v b.T@t4 = b@l1.Q }",
		"func f(b#l1 b.T@t4) b.T@t4 { return b@l1.X }",
		"func f() { b#l1 := b@i.V@t2; b@l1.k = b@l1.X.Y }",
		"func f() { var b#l1 b.T@t4 = b@i.V@t2; { var b#l2 b.T@t4 = b@l1.V; b@l2.X }; b@l1.X }",
		"func f() { { b#l1 := 1; b@l1.q }; b@i.K@t1 }",
		"func f() { if true { b#l1 := 1; b@l1.q = b@l1 } else { b@i.V@t2 = b@i.K@t1 } }",
		"type T#t5 struct { b int }; func (b#l1 T@t5) K() b.T@t4 { return b@l1.b.K }",
		"type T#t5 struct { }; var K#t6 int; func f(x T@t5) { K@t6 = b@i.K@t1; y := 1 }",
	} {
		meant(t, "a/x.go", "package a; import \"b\"#i; "+s, "b/x.go", b)
		meant(t, "a/x.go", "package a; import \"q/p\"; import \"c/b\"#i; "+s, "b/x.go", "package b; const K = 1", "c/b/x.go", "package b", "c/b/y.go", b, "q/p/x.go", "package p; const b = 1")
	}
	// The kid of a NodeDot that is no NodeName, or is a name of something else, tells nothing of the NodeDot.
	meant(t, "a/x.go", "package a; import \"b\"; const c#t7 = 1; func f#t8() { c@t7.K; f@t8().K; 1.K; (f@t8 + c@t7).K; println@b1.K }", "b/x.go", b)
}

// P13.2: nothing is looked for of the NodeName of a NodeFar, so it means nothing, wherever the NodeFar stands; each other node means what it does.
func TestNameOfFar(t *testing.T) {
	none, imp := api.Use{}, api.Use{Kind: api.UseImport, Node: 1}
	typ, val := api.Use{Kind: api.UseTop, File: 1, Node: 1}, api.Use{Kind: api.UseTop, File: 1, Node: 4}
	local := func(node int) api.Use { return api.Use{Kind: api.UseLocal, Node: node} }
	own := func(node int) api.Use { return api.Use{Kind: api.UseTop, Node: node} }
	for _, q := range []struct {
		in, fars int // the Kind of the nodes in which NodeFars stand, and how many these are
		text     string
		want     []api.Use // of each node behind the NodeFile and the NodeImport
	}{
		// in a NodeVar of the package
		{api.NodeVar, 1, "var v b.T", []api.Use{none, typ, none}},
		{api.NodeVar, 1, "var v b.T = b.V", []api.Use{none, typ, none, val, imp}},
		{api.NodeVar, 2, "var v b.T; var w b.T = v", []api.Use{none, typ, none, none, typ, none, own(2)}},
		// in a NodeVar of a function
		{api.NodeVar, 1, "func f() { var v b.T; v.X = b.V.X }", []api.Use{none, none, none, typ, none, none, none, local(4), none, val, imp}},
		{api.NodeVar, 1, "func f() { var b b.T = b.V; b.X }", []api.Use{none, none, none, typ, none, val, imp, none, none, local(4)}},
		{api.NodeVar, 1, "func f(b int) { { var v b.T = b } }", []api.Use{none, none, none, none, none, none, typ, none, local(3)}},
		{api.NodeVar, 1, "func f() { b := b.V; var v b.T = b }", []api.Use{none, none, none, val, imp, none, typ, none, local(4)}},
		// in a NodeField
		{api.NodeField, 1, "type S struct { x b.T }", []api.Use{none, none, typ, none}},
		{api.NodeField, 2, "type S struct { b b.T; y int; T b.T; z S }", []api.Use{none, none, typ, none, none, none, none, typ, none, none, own(2)}},
		// in a NodeParam
		{api.NodeParam, 1, "func f(x b.T) { x = b.V }", []api.Use{none, none, typ, none, none, none, local(3), val, imp}},
		{api.NodeParam, 2, "func f(b b.T, c b.T) { c = b }", []api.Use{none, none, typ, none, none, typ, none, none, none, local(6), local(3)}},
		// as what a function tells
		{api.NodeFunc, 1, "func f() b.T { return b.V }", []api.Use{none, typ, none, none, none, val, imp}},
		{api.NodeFunc, 1, "func f(b int) b.T { return b }", []api.Use{none, none, none, typ, none, none, none, local(3)}},
		{api.NodeFunc, 1, "type S struct { }; func (b S) f() b.T { return b }", []api.Use{none, none, none, own(2), typ, none, none, none, local(4)}},
	} {
		for _, folder := range []string{"b", "c/b"} {
			r := repo("a/x.go", "package a; import \""+folder+"\"; "+q.text, folder+"/x.go", "package b; type T struct { X int }; var V int")
			p := mustRead(t, r)
			s, e := check(t, r)
			if want := append([]api.Use{none, none}, q.want...); e != (api.Place{}) || !slices.Equal(s.Uses[0], want) {
				t.Errorf("Resolve of %q: %v, %v, want %v", r.Files, s, e, want)
				continue
			}
			met := 0
			for i, n := range p.Trees[0].Nodes {
				if l := (look{p, 0, i}); n.Kind == api.NodeFar && l.parent() == q.in && s.Uses[0][i] == typ && s.Uses[0][n.Kids[0]] == none {
					met++
				}
			}
			if met != q.fars {
				t.Errorf("%q: %d NodeFars in nodes of Kind %d, want %d", q.text, met, q.in, q.fars)
			}
		}
	}
	// In a NodeRecv the grammar has none: at the point no file goes on.
	text := "package a; import \"b\"; func (r b.T) f() { }"
	want := api.Place{Err: api.ErrParse, At: strings.Index(text, ".T")}
	if p, e := scope.Read(repo("a/x.go", text, "b/x.go", "package b; type T struct { }")); e != want || len(p.Trees) > 0 {
		t.Errorf("Read(%q): %v, %v, want %v", text, p, e, want)
	}
	// Each by its own import, in files that import others of the same name.
	meant(t, "a/x.go", "package a; import \"b\"#i1; import \"d\"#i2; func f(x b.T@t1, y d.T@t3) d.T@t3 { var z b.T@t1 = b@i1.V@t4; return d@i2.V@t6 }",
		"a/y.go", "package a; import \"c/b\"#i3; type S struct { x b.T@t2 }; var v b.T@t2 = b@i3.V@t5",
		"b/x.go", "package b; type T#t1 struct { }; var V#t4 int", "c/b/x.go", "package b; type T#t2 struct { }; var V#t5 int", "d/x.go", "package d; type T#t3 struct { }; var V#t6 int")
	// A declaration of its name in the import's package is not meant either.
	meant(t, "a/x.go", "package a; import \"b\"; var v b.T@t1", "b/x.go", "package b; type b struct { }; type T#t1 struct { }")
	// Nor is a local, or a built-in name.
	meant(t, "a/x.go", "package a; import \"len\"#i1; func f(len#l1 len.T@t1) len.T@t1 { { len#l2 := len@l1; var v len.T@t1 = len@l2 }; return len@l1.V }; func g() { len@i1.V@t2 }",
		"len/x.go", "package len; type T#t1 struct { }; var V#t2 int = len@b2")
}

// P13.4: the files of a package in each order; what is wrong first is told of another file then.
func TestOrder(t *testing.T) {
	texts := []string{
		"package a; import \"b\"#i1; var v#t1 T@t2; func f#t3(k#l1 int) int { return k@l1 + g@t4(v@t1.x) + b@i1.K@t6 }",
		"package a; type T#t2 struct { x int }; func (v#l2 T@t2) f() { f@t3(k@t5); v@l2.f() }",
		"package a; import \"c/b\"#i2; func g#t4(x#l3 int) int { v#l4 := f@t3(x@l3); return v@l4 + b@i2.K@t7 }; const k#t5 = 1",
	}
	wrong := []string{"package a; const k = 1", "package a; func k() { }", "package a; const j = 1; type k struct { }"}
	for _, to := range [][3]int{{0, 1, 2}, {0, 2, 1}, {1, 0, 2}, {1, 2, 0}, {2, 0, 1}, {2, 1, 0}} {
		x, y, z := to[0], to[1], to[2]
		meant(t, "a/x.go", texts[x], "a/y.go", texts[y], "a/z.go", texts[z], "b/x.go", "package b; const K#t6 = 1", "c/b/x.go", "package b; const K#t7 = 1")
		second := strings.NewReplacer(" k ", " ^k ", " k(", " ^k(").Replace(wrong[y])
		refused(t, api.ErrTwice, "a/x.go", wrong[x], "a/y.go", second, "a/z.go", wrong[z])
	}
}

// R1: no program is too deep, and none too large.
func TestLimits(t *testing.T) {
	deep := "package a; func f(x#l0 int) { " + strings.Repeat("{ ", 19) + "x@l0" + strings.Repeat(" }", 19) + " }"
	meant(t, "a/x.go", deep)
	refused(t, api.ErrUnknown, "a/x.go", strings.ReplaceAll(strings.ReplaceAll(deep, "#l0", ""), "x@l0", "^y"))
	var parts []string
	for _, name := range strings.Split("abcdefghijklmnop", "") {
		parts = append(parts, name+"/"+name+"/"+name+"/x.go", "package "+name+"\nvar v int = "+strings.Repeat("v + ", 19)+"v")
	}
	r := repo(parts...)
	if s, e := check(t, r); e != (api.Place{}) || len(s.Uses) != 16 {
		t.Errorf("Resolve of 16 packages: %v, %v", s, e)
	}
	many := "package a; var v int; func f() { " + strings.Repeat("v = v;", 200) + " }"
	if s, e := check(t, repo("a/x.go", many)); e != (api.Place{}) || len(s.Uses[0]) != 605 {
		t.Errorf("Resolve of many names: %d, %v", len(s.Uses), e)
	}
}
