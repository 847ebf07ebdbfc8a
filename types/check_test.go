package types_test

import (
	"fmt"
	"strings"
	"testing"

	"shipwright/api"
	"shipwright/scope"
	"shipwright/types"
)

// P14.1: structs that have themselves in them.
func TestCycles(t *testing.T) {
	for _, s := range []string{
		"type ^t struct { a t }",
		"type ^t struct { a int; b bool; c t; d string }",
		"type u struct { a int }; type ^t struct { a u; b t }",
		"type ^t struct { a u }; type u struct { a t }",
		"type ^t struct { a int; b w; c u }; type u struct { a t }; type w struct { a int }",
		"type ^t struct { a u }; type u struct { a v }; type v struct { a t }",
		"type ^v struct { a t }; type t struct { a u }; type u struct { b int; a v }",
		"type w struct { a int; b int }; type ^t struct { a w; b u }; type u struct { a w; b v }; type v struct { a w; b t }",
		"type ^t struct { a u; b u }; type u struct { a v; b v }; type v struct { a w; b w }; type w struct { a int; b t }",
		// One that is not in the circle, but has it in it, is not wrong itself; nor is one that stands in it.
		"type t struct { a u }; type ^u struct { a u }",
		"type t struct { a u }; type ^u struct { a v }; type v struct { a w; b u }; type w struct { a int }",
		"type t struct { a u; b v }; type u struct { a w }; type ^v struct { a u; b x }; type w struct { a int }; type x struct { a w; b v }",
		"type s struct { a t }; type t struct { a u }; type u struct { a v }; type ^v struct { a v }",
		"type ^t struct { a u }; type u struct { a u; b t }",
		"type ^t struct { a u; b v }; type u struct { a u }; type v struct { a t }",
		// Of two circles the first one's first.
		"type ^t struct { a t }; type u struct { a u }",
		"type w struct { a int }; type ^t struct { a u }; type v struct { a v }; type u struct { a t }",
	} {
		refused(t, api.ErrCycle, "a/x.go", "package a; "+s)
	}
	right(t, "a/x.go", "package a; type t struct { a u; b u }; type u struct { a v; b v; c w }; type v struct { a w; b w }; type w struct { a int; b int; t int }")
	right(t, "a/x.go", "package a; type t struct { t int; u u }; type u struct { t bool }; func (r t) u_() t { return r }; func f(p t, q u) u { return q }; var v t")
	// over files and packages
	refused(t, api.ErrCycle, "a/x.go", "package a; type ^t struct { a u }", "a/y.go", "package a; type u struct { a t }")
	refused(t, api.ErrCycle, "a/x.go", "package a", "a/y.go", "package a; type ^u struct { a t }", "a/z.go", "package a; type t struct { a v }; type v struct { a u }")
	refused(t, api.ErrCycle, "a/x.go", `package a; import "b"; type ^T struct { a b.T }`, "b/x.go", `package b; import "a"; type T struct { a a.T }`)
	refused(t, api.ErrCycle, "a/x.go", `package a; import "b"; type S struct { a b.U }; type T struct { a b.T }`, "b/x.go", `package b; type ^T struct { a T }; type U struct { a int }`)
	refused(t, api.ErrCycle, "a.go", "", "a/x.go", `package a; import "b"; type ^T struct { a b.T }`, "b/x.go", `package b; import "c"; type T struct { a int; b c.T }`, "c/x.go", `package c; import "a"; type T struct { a int; b a.T }`)
	right(t, "a/x.go", `package a; import "b"; type T struct { a b.T }; type U struct { a int }`, "b/x.go", `package b; import "a"; type T struct { a a.U }`)
	right(t, "a/x.go", `package a; import "b"; type T struct { a b.T }`, "b/x.go", "package b; type T struct { a int; b a }; type a struct { T int }")
}

// fields are so many fields of a type, each with its own name.
func fields(n int, typ string) string {
	var list []string
	for i := range n {
		list = append(list, fmt.Sprintf("f%d %s", i, typ))
	}
	return strings.Join(list, ";")
}

// P14.1: structs of MaxParts parts, and of one more.
func TestParts(t *testing.T) {
	structure := func(name string, list ...string) string {
		return "\ntype " + name + " struct {" + strings.Join(list, ";") + "}\n"
	}
	right(t, "a/x.go", "package a"+structure("t", fields(256, "int")))
	refused(t, api.ErrLarge, "a/x.go", "package a"+structure("^t", fields(257, "bool")))
	// by those of a field that is a struct: one for it, and those of its own
	one := structure("u", fields(15, "string"))
	right(t, "a/x.go", "package a"+one+structure("t", fields(16, "u")))
	refused(t, api.ErrLarge, "a/x.go", "package a"+one+structure("^t", fields(16, "u"), "g int"))
	refused(t, api.ErrLarge, "a/x.go", "package a"+structure("^t", "g int", fields(16, "u"))+one)
	refused(t, api.ErrLarge, "a/x.go", "package a"+structure("^t", fields(17, "u"))+one)
	right(t, "a/x.go", "package a"+one+structure("t", fields(15, "u"), "g w"), "a/y.go", "package a"+structure("w", fields(15, "u2"))+structure("u2"))
	refused(t, api.ErrLarge, "a/x.go", "package a"+one+structure("^t", fields(15, "u"), "g w"), "a/y.go", "package a"+structure("w", fields(16, "u2"))+structure("u2"))
}

// P14.1: structs of structs of structs, whose parts are many.
func TestManyParts(t *testing.T) {
	// t7 has 2 parts, each one ahead of it twice as many and two more: t1 has 254, t0 510.
	var list []string
	for i := range 7 {
		list = append(list, fmt.Sprintf("type t%d struct { a t%d; b t%d }", i, i+1, i+1))
	}
	list = append(list, "type t7 struct { a int; b int }")
	refused(t, api.ErrLarge, "a/x.go", "package a; "+strings.Replace(strings.Join(list, "; "), "t0", "^t0", 1))
	right(t, "a/x.go", "package a; "+strings.Join(list[1:], "; ")+"; type t0 struct { a t1; b int }")
	refused(t, api.ErrLarge, "a/x.go", "package a; "+strings.Join(list[1:], "; ")+"; type ^t0 struct { a t1; b int; c bool }")
	refused(t, api.ErrLarge, "a/x.go", "package a; "+strings.Join(list[1:], "; ")+"; type s struct { a int }; type ^t0 struct { a t1; b s }")
	right(t, "a/x.go", "package a; "+strings.Join(list[1:], "; ")+"; type s struct { }; type t0 struct { a t1; b s }")
	// Structs without fields are one part each.
	right(t, "a/x.go", "package a; type e struct { }; type t struct { "+fields(256, "e")+" }; type s struct { }")
	refused(t, api.ErrLarge, "a/x.go", "package a; type e struct { }; type ^t struct { "+fields(257, "e")+" }")
	// over files and packages
	right(t, "a/x.go", `package a; import "b"; type T struct { a b.T; b b.T }`, "b/x.go", "package b; type T struct { "+fields(127, "int")+" }")
	refused(t, api.ErrLarge, "a/x.go", `package a; import "b"; type ^T struct { a b.T; b b.T }`, "b/x.go", "package b; type T struct { "+fields(127, "int")+"; g u }", "b/y.go", "package b; type u struct { }")
	refused(t, api.ErrLarge, "a/x.go", `package a; import "b"; type S struct { }; type ^T struct { a b.T; b b.T; c S }`, "b/x.go", "package b; type T struct { "+fields(127, "int")+" }")
	// The first one, whichever is the largest; all that have such a one are too large, too.
	refused(t, api.ErrLarge, "a/x.go", "package a; type s struct { a int }; type ^r struct { a t }; type t struct { "+fields(257, "int")+" }")
	refused(t, api.ErrLarge, "a/x.go", "package a; type r struct { a s }; type s struct { a int }; type ^t struct { "+fields(257, "int")+" }; type u struct { a t }")
	// More than can be counted one by one; and as many structs, one in the other, with few parts.
	refused(t, api.ErrLarge, chain("type ^t0 struct{a t1;b t1}", "type t%d struct{a t%d;b t%d}")...)
	right(t, chain("type t0 struct{a t1;b int}", "type t%d struct{a t%d};type s%d struct{a int}")...)
}

// chain are the files of a package with 200 structs, each in the one ahead of it: how the first one is declared, and the further ones.
func chain(first, further string) []string {
	list := []string{first}
	for i := 1; i < 200; i++ {
		list = append(list, fmt.Sprintf(further, i, i+1, i+1))
	}
	list = append(list, "type t200 struct{a int}")
	var files []string
	for i := 0; i < len(list); i += 50 {
		files = append(files, fmt.Sprintf("a/%d.go", i/50), "package a\n"+strings.Join(list[i:min(i+50, len(list))], "\n"))
	}
	return files
}

// P14.1: methods with the name of a field, or of a method ahead.
func TestMethodTwice(t *testing.T) {
	for _, s := range []string{
		"type T struct { m int }; func (r T) ^m() { }",
		"func (r T) ^m() { }; type T struct { m int }",
		"type T struct { i int; b T2; m bool }; type T2 struct { }; func (r T) n() { }; func (r T) ^m(x int) int { return x }",
		"type T struct { }; func (r T) m() { }; func (r T) ^m() { }",
		"type T struct { }; func (r T) m() { }; func (r T) n() { }; func (s T) ^m(x int) { }; func (r T) n() { }",
		"type T struct { }; type S struct { m int }; func (r S) n() { }; func (r T) m() { }; func (r T) n() { }; func (r S) ^m() { }",
		"type T struct { m int }; func (r T) ^m() { }; func (r T) m() { }",
		"func (r T) m() { }; func (r T) ^m() { }; type T struct { }",
	} {
		refused(t, api.ErrTwice, "a/x.go", "package a; "+s)
	}
	refused(t, api.ErrTwice, "a/x.go", "package a; func (r T) ^m() { }", "a/y.go", "package a; type T struct { m int }")
	refused(t, api.ErrTwice, "a/x.go", "package a; type T struct { m int }", "a/y.go", "package a", "a/z.go", "package a; func (r T) ^m() { }")
	refused(t, api.ErrTwice, "a/x.go", "package a; func (r T) m() { }", "a/y.go", "package a; type T struct { }; func (r T) ^m() { }")
	refused(t, api.ErrTwice, "a/x.go", "package a; type T struct { }; func (r T) m() { }", "a/y.go", "package a; func (r T) n() { }", "a/z.go", "package a; func (r T) ^n() { }; func (r T) m() { }")
	refused(t, api.ErrTwice, "a/x.go", "package a; type T struct { }; func (r T) m() { }", "b/x.go", "package b; type T struct { }; func (r T) m() { }; func (r T) ^m() { }")
	for _, s := range []string{
		"type T struct { m int }; type S struct { }; func (r S) m() { }",
		"type T struct { }; type S struct { }; func (r S) m() { }; func (r T) m() { }",
		"type T struct { n int }; func (r T) m() { }; func m() { }; func (r T) T() { }; func (m T) r() { }",
		"type T struct { m S }; type S struct { n int }; func (r T) n() { }; func (r S) m() { }; func (r S) N() { }",
	} {
		right(t, "a/x.go", "package a; "+s)
	}
	right(t, "a/x.go", "package a; type T struct { }; func (r T) m() { }", "b/a/x.go", "package a; type T struct { }; func (r T) m() { }", "b/x.go", "package b; type T struct { m int }")
	// Scope's own of that name goes ahead.
	refused(t, api.ErrTwice, "a/x.go", "package a; type T struct { m int }; func (r T) m() { }; const k = 1; const ^k = 1")
}

// P14.1: what a package's variables may not begin with.
func TestStart(t *testing.T) {
	decls := "; const k = 1; const s = \"s\"; const o = true; var v int; var z T; type T struct { i int }; func f() int { return 1 }; func (r T) m() int { return 1 }; func n() { }"
	b := "package b; const K = 1; const S = \"s\"; var V int; type T struct { I int }; func F() int { return 1 }"
	for _, s := range []string{
		"var x int = 1", "var x int = -1", "var x int = k", "var x int = -k", "var x int = b.K", "var x int = k - b.K * 2 - (3 - k)", "var x bool = !o && (k < 2 || s == b.S)", "var x string = s", "var x string = b.S", "var x T", "var x b.T", "var x bool", `var x string = "+/%"`, "var x bool = true == (!!o != (1 <= 2 && 1 >= k && 1 > 2))",
		"func g() { var x int = f() + v / 2 % b.F() + z.m() + z.i; println(x) }", "func g() { { var x T = z; x.i = len(s + s) } }",
	} {
		right(t, "a/x.go", `package a; import "b"; `+s+decls, "b/x.go", b)
	}
	for _, s := range []string{
		// each of what may not stand there
		"1 ^+ 2", "1 ^/ 2", "1 ^% 2", `"a" ^+ "b"`, "^f()", "^len(s)", "^arg(0)", "^println(1)", "^b.F()", "^T()", "^1()", "^v", "^f", "^T", "^println", "^x", "^z", "b.^V", "b.^F", "b.^T", "z.^i", "z.^m", "^z.m()", "1.^i", "k.^i", "b.K.^I", "b.V.^I", "f().^i", "^f().i()", "f().i.^i",
		// as a part
		"1 - (2 ^+ 3)", "1 - 2 * (3 ^% 4)", "-^f()", "-(1 ^/ 1)", "k - ^v", "k * b.^V", "1 < ^v", "o && !(k == ^f())", "1 - -(-^v)",
		// the first one, in preorder
		"1 ^+ 2 / 3", "1 / 2 ^+ 3", "(1 + 2) ^% f()", "^f() - (1 + 2)", "(1 ^+ 2) - f()", "1 ^+ f()", "^v - f()", "^v - (1 + 2)", "b.^V - v", "-(1 ^/ v) - f()", "^f(1 + 2)", "z.i.^i", "k - z.^i - v", "^f() - v.i",
		// ahead of what is wrong with the expression
		`1 ^+ "a"`, "^v(T)", `-"a" - ^v`, "!1 - (1 ^+ 2)", "(1 && 2) == (o ^+ T)", "k.^z", "z.^z", "1.i.^z", `^v("s")`, `!"a" - z.^i`, `^f(f)`, `o ^+ o`, `"a" - 1 - ^f()`,
	} {
		refused(t, api.ErrStart, "a/x.go", `package a; import "b"; var x int = `+s+decls, "b/x.go", b)
	}
	// ahead of what is wrong with the variable itself
	refused(t, api.ErrStart, "a/x.go", "package a; var x bool = 1 ^+ 2")
	refused(t, api.ErrStart, "a/x.go", `package a; var x string = "`+strings.Repeat("s", 1025)+`" ^+ "s"`)
	refused(t, api.ErrStart, "a/x.go", "package a; var x int = 1; const k = true; var y int = ^x; var z int = k")
	refused(t, api.ErrStart, "a/x.go", "package a; var x int = ^y", "a/y.go", "package a; var y int = 1")
	right(t, "a/x.go", "package a; var x int = y", "a/y.go", "package a; const y = 1")
	// behind what is wrong with a variable ahead of it
	refused(t, api.ErrType, "a/x.go", "package a; var ^x int = true; var y int = 1 + 1")
	// What is no reason not to start is wrong all the same.
	for s, err := range map[string]api.Errno{"var ^x int = true": api.ErrType, "var ^x T = k": api.ErrType, "var ^x string = b.K": api.ErrType, `var x int = 1 ^- "a"`: api.ErrType, "var x bool = ^!1": api.ErrType, "var x bool = 1 ^< o": api.ErrType, "var ^x b.T = 1": api.ErrType, "func g() { var ^x int = o }": api.ErrType, "func g() { var x int = ^T }": api.ErrValue} {
		refused(t, err, "a/x.go", `package a; import "b"; `+s+decls, "b/x.go", b)
	}
}

// P14.1: variables, and what is declared by an expression.
func TestVariables(t *testing.T) {
	rightBody(t, "var x int = 1; var y bool = vb; var z string = vs; var w T = vt; var v b.W = vw; var u U", "var x T = ft(); var y b.W = b.G(x.i, vw)", "x := 1; y := vb; z := vs; w := vt; v := vw; u := w.u; u = vu; w = vt; var i int = x", "var vi bool = vi == 1; vi = vb", "vt := vi; var x int = vt", "x := vt.mt(); vt = x; y := b.G(1, vw).X; y.I = 1")
	refusedBody(t, api.ErrType, "var ^x int = vb", "var ^x bool = vs", "var ^x string = vi", "var ^x T = 1", "var ^x T = vu", "var ^x U = vt.u.t", "var ^x int = vt", "var ^x b.W = vt.u", "var ^x b.X = vw", "var ^x T = vw", "var ^x int = fn()", "var ^x T = println(1)", "var ^x int = pt.mn()", "if vb { var ^x int = vb }",
		"^x := fn()", "^x := println(1)", "^x := panic(vs)", "^x := vt.mn()", "^x := b.N()", "^x := vw.N()", "{ ^x := fn() }",
		// and what they are then
		"x := 1; ^x = vb", "x := vt; ^x = vu", "var x int; y := x; ^y = vs", "x := vb; { x := 1; y := x ^&& vb }", "var vi bool = vi == 1; ^vi = 1")
}

// P14.1: what something can be put into.
func TestAssign(t *testing.T) {
	rightBody(t, "vi = 1; pi = 2; var x int; x = 3; y := 1; y = 4", "vt = vt; pt = vt; vt.i = 1; pt.u.i = 2; pt.u.t.i = 3; pt.u = vu; vt.u.t = pt.u.t", "b.V = 1; b.W2.I = 2; b.W2.X.I = 3; b.W2 = vw; vw.X = b.W2.X", "x := vt; x.u.t.i = 1", "var x T; { x.i = pi; x = pt }")
	right(t, "a/x.go", "package a; type T struct { i int; u U }; type U struct { i int }; func (r T) m() { r = r; r.i = 1; r.u.i = 2; r.u = r.u }")
	refusedBody(t, api.ErrAssign, "^1 = 1", "^true = vb", `^"s" = vs`, "^ki = 1", "^ks = vs", "^b.K = 1", "^fi() = 1", "^ft() = vt", "^ft().i = 1", "^ft().u.t.i = 1", "^vt.mt().i = 1", "^vt.mi() = 1", "^vt.mt().u = vu", "^(1 + 2) = 3", "^-pi = 1", "^!vb = vb", "^pi + 1 = 2", "^b.F() = 1", "^b.G(1, vw).I = 1", "^b.G(1, vw).X.I = 1", "^println(1) = println(1)", "^fn() = fn()", "^len(vs) = 1", "^arg(0) = 1",
		// ahead of types that are not the same
		"^1 = vb", "^ki = vs", "^ft().i = vt", "^fn() = 1", "^1 = fn()", "^b.K = vw")
	refusedBody(t, api.ErrType, "^vi = vb", "^pi = vs", "^pt = vu", "^pt.i = vb", "^pt.u = pt", "^pt.u.t.i = pt", "var x T; ^x = 1", "x := 1; ^x = vt", "^b.V = vb", "^b.W2 = vt", "^vw.X = vw", "^vi = fn()", "^vt = println(1)", "^vt.i = vt.mn()", "^vs = len(vs)", "^vb = arg(0)")
	// Both kids' errors go ahead, in order.
	refusedBody(t, api.ErrType, `1 = 1 ^+ "s"`, `ki = ^!1`, `(1 ^+ "s") = !1`, "vt.i = ^-vb", "vt.m2(1 ^+ vs, vu).x = fi")
	refusedBody(t, api.ErrValue, "1 = ^fi", "^fi = !1", "vt.^mi = fi", "vt.mi() = ^T", "b.^F = T", "^println = 1")
	refusedBody(t, api.ErrField, "vt.^z = 1 + vs", "1 = vt.^z", "vi.^x = 1")
	refusedBody(t, api.ErrHidden, "vw.^h = 1", "vw.^x.I = 1 + vs", "ki = vw.^h", "b.W2.X.^h = 1")
	refusedBody(t, api.ErrCall, "^T() = fi", "ki = ^T()")
}

// P14.1: conditions, and expressions that stand alone.
func TestConditions(t *testing.T) {
	rightBody(t, "if vb { } else if fb() { } else if pt.b { } else { }", "for vb { }; for 1 < 2 { for fb() { } }", "if true { if !kb { } }")
	refusedBody(t, api.ErrType, "^if 1 { }", "^if vs { }", "^if vt { }", "^if fn() { }", "^if pi { } else { }", "if vb { } else ^if 1 { }", "if vb { } else if vb { } else ^if vs { } else { }", "if vb { ^if 1 { } }", "if vb { } else { ^if 1 { } }", "^for 1 { }", "^for vs { }", "^for pt { }", "^for println(1) { }", "for vb { ^for 1 { } }", "{ { ^for fi() { } } }", "fn(); ^if fi() { }",
		// Behind what is wrong with the kids: the condition's, and then the blocks', in order.
		`if 1 ^+ "s" { !1 }`, "if 1 { ^-vb }", "if 1 { } else { ^-vb }", "if 1 { } else ^if 1 { }", "if 1 { ^if 1 { } } else if 1 { }", "for 1 ^- vb { -vb }", "for 1 { x := ^-vb }", "for 1 { ^if 1 { } }", "if 1 { vi = 1 } else if vb { ^vi = !vb == vb }")
	refusedBody(t, api.ErrReturn, "if 1 { ^return 1 }", "for 1 { if 1 { ^return 1 } }")
	refusedBody(t, api.ErrValue, "if ^fi { }", "for ^T { }", "for 1 { ^fi }", "if 1 { println(^fi) }")
	refusedBody(t, api.ErrCall, "^1", "^vi", "^true", `^"s"`, "^ki", "^vt.i", "^b.K", "^b.V", "^pt.u.t", "^1 + 2", "^-1", "^!vb", "^(1)", "^(fi() + 1)", "^fi() + 1", "^-fi()", "^vt.mt().i", "{ ^pi }", "if vb { ^pi }", "for vb { fi(); ^pi }",
		// behind its kid's errors
		"^T()", "^1()", "println(^1())")
	refusedBody(t, api.ErrType, `1 ^+ "s"`, "^-vb", "fi(^-vb)", "^println(vt)", "vt.mi(^!1).i")
	refusedBody(t, api.ErrValue, "^fi", "vt.^mi", "b.^F", "^T")
	refusedBody(t, api.ErrField, "vt.^z")
	rightBody(t, "fi(); fn(); (fi()); vt.mt().mn(); (vt.mi)(); ((b.N))()")
}

// P14.1: returns, in functions and methods that tell something and nothing.
func TestReturns(t *testing.T) {
	const decls = "; var v int; var z T; type T struct { i int }; type U struct { i int }; func f() int { return 1 }; func n() { }"
	for _, s := range []string{
		"func g() { return }", "func g() { return; return; v = 1 }", "func g() { if true { return }; v = 1 }", "func (r T) g() { return }",
		"func g() int { return 1 }", "func g() int { return f() + v }", "func g() bool { return v == 1 }", `func g() string { return "s" }`, "func g() T { return z }", "func (r T) g() T { return r }", "func (r T) g() int { return r.i }", "func g(p T) T { { return p } }", "func g() int { if true { return 1 }; return 2 }", "func g() T { var x T; return x }",
	} {
		right(t, "a/x.go", "package a; "+s+decls)
	}
	for _, s := range []string{
		"func g() { ^return 1 }", "func g() { ^return n() }", "func g() { ^return println(1) }", "func g() { ^return z }", "func (r T) g() { ^return r }", "func g() { if true { for true { ^return v } } }", "func g() { ^return f() }",
		"func g() int { ^return }", "func g() T { ^return }", "func (r T) g() bool { ^return }", "func g() int { if true { ^return }; return 1 }",
		"func g() int { ^return true }", `func g() int { ^return "s" }`, "func g() int { ^return z }", "func g() bool { ^return 1 }", "func g() string { ^return 1 }", "func g() T { ^return z.i }", "func g(p U) T { ^return p }", "func g() U { ^return z }", "func (r T) g() U { ^return r }", "func g() int { ^return n() }", "func g() T { ^return println(1) }", "func g() int { { { ^return true } } }", "func g() int { if true { ^return true }; return 1 }",
		// the first one
		"func g() int { ^return true; return }", "func g() { if v == 1 { ^return 1 } else { return 2 } }", "func g() { return }; func h() int { ^return }; func k() { return 1 }",
	} {
		refused(t, api.ErrReturn, "a/x.go", "package a; "+s+decls)
	}
	// behind its kid's errors
	refused(t, api.ErrType, "a/x.go", `package a; func g() { return 1 ^+ "s" }`)
	refused(t, api.ErrValue, "a/x.go", `package a; func g() int { return ^g }`)
	// by the function round it
	right(t, "a/x.go", "package a; func f() int { return 1 }; func g() { return }; func h() bool { return true }; func i() { }; func j() string { return \"s\" }")
}

// P14.1: functions that tell something, and whose last statement ends or does not.
func TestEnds(t *testing.T) {
	for _, s := range []string{
		"return 1", "v = 1; return 1", "return 1; return 2", "{ return 1 }", "{ { v = 1; { return 1 } } }", "if v == 1 { return 1 } else { return 2 }", "if v == 1 { return 1 } else if v == 2 { return 2 } else { return 3 }", "if v == 1 { { return 1 } } else { if v == 2 { return 2 } else { return 3 } }", "if v == 1 { v = 1; return 1 } else { v = 2; { return 2 } }", "for true { }; return 1", "if v == 1 { }; return 1", "{ if v == 1 { return 1 } else { { { return 1 } } } }", "panic(\"s\"); return 1", "return 1; { return 2 }",
	} {
		right(t, "a/x.go", "package a; var v int; func f() int { "+s+" }")
		right(t, "a/x.go", "package a; var v int; type T struct { }; func (r T) f(x bool) int { "+s+" }")
	}
	for _, s := range []string{
		"", "v = 1", "{ }", "{ { } }", "f()", "println(1)", `panic("s")`, "x := 1", "var x int = 1", "if v == 1 { return 1 }", "if v == 1 { return 1 } else { }", "if v == 1 { } else { return 1 }", "if v == 1 { } else { }", "if v == 1 { return 1 } else if v == 2 { return 2 }", "if v == 1 { return 1 } else if v == 2 { } else { return 3 }", "if v == 1 { return 1 } else if v == 2 { return 2 } else { v = 1 }", "if v == 1 { v = 1 } else if v == 2 { return 2 } else { return 3 }", "for true { }", "for true { return 1 }", "return 1; v = 1", "return 1; { }", "{ return 1 }; v = 1", "{ return 1; v = 1 }", "return 1; for true { return 1 }", "if v == 1 { return 1; v = 1 } else { return 1 }", "if v == 1 { return 1 } else { for true { return 1 } }", "{ if v == 1 { return 1 } }", "return 1; var x int", "return 1; return 2; f()", "if v == 1 { for true { return 1 } } else { return 1 }",
	} {
		refused(t, api.ErrReturn, "a/x.go", "package a; var v int; func ^f() int { "+s+" }")
		refused(t, api.ErrReturn, "a/x.go", "package a; var v int; type T struct { }; func f() { }; func (r T) ^g(y int) T { "+strings.NewReplacer("return 1", "return r", "return 2", "return r", "return 3", "return r").Replace(s)+" }")
		right(t, "a/x.go", "package a; var v int; func f() { "+strings.NewReplacer("return 1", "return", "return 2", "return", "return 3", "return").Replace(s)+" }")
	}
	// behind all that is wrong in it, ahead of the next one
	refused(t, api.ErrType, "a/x.go", `package a; func f() int { x := 1 ^+ "s" }`)
	refused(t, api.ErrCall, "a/x.go", "package a; func f() int { if true { ^1 } }")
	refused(t, api.ErrReturn, "a/x.go", "package a; func ^f() int { }; func g() int { return true }")
	refused(t, api.ErrReturn, "a/x.go", "package a; func f() int { ^return true }; func g() int { }")
	refused(t, api.ErrReturn, "a/x.go", "package a; func f() int { ^return true; f() }")
	refused(t, api.ErrReturn, "a/x.go", "package a; func f() int { return 1 }", "a/y.go", "package a; func ^g() int { }")
}

// P14.1: what is wrong first: three goes through all files, each ahead of the next.
func TestRounds(t *testing.T) {
	const cycle, large, twice, start, typ = "type c struct { c c }", "type l struct { ", "type t struct { m int }; func (r t) m() { }", "var s int = 1 + 1", "func e() { x := 1 + true }"
	many := large + fields(257, "int") + " }"
	marked := map[string]string{cycle: "type ^c struct { c c }", many: "type ^l struct { " + fields(257, "int") + " }", twice: "type t struct { m int }; func (r t) ^m() { }", start: "var s int = 1 ^+ 1", typ: "func e() { x := 1 ^+ true }"}
	errs := map[string]api.Errno{cycle: api.ErrCycle, many: api.ErrLarge, twice: api.ErrTwice, start: api.ErrStart, typ: api.ErrType}
	order := []string{cycle, many, twice, start, typ}
	for i, one := range order {
		for _, two := range order[i+1:] {
			first, second := marked[one], two
			refused(t, errs[one], "a/x.go", "package a; "+first+"; "+second)
			refused(t, errs[one], "a/x.go", "package a; "+first, "a/y.go", "package a; "+second)
			refused(t, errs[one], "b/x.go", "package b; "+first, "c/x.go", "package c; "+second)
			if one == start { // of one go, with the other one
				first, second = start, marked[two]
				refused(t, errs[two], "a/x.go", "package a; "+second+"; "+first)
				refused(t, errs[two], "a/x.go", "package a; "+second, "a/y.go", "package a; "+first)
				continue
			}
			refused(t, errs[one], "a/x.go", "package a; "+second+"; "+first)
			refused(t, errs[one], "a/x.go", "package a; "+second, "a/y.go", "package a; "+first)
			refused(t, errs[one], "b/x.go", "package b; "+second, "c/x.go", "package c; "+first)
		}
		// What scope tells goes ahead of all.
		refused(t, api.ErrUnknown, "a/x.go", "package a; "+one, "b/x.go", "package b; var v int = ^q")
		// Of two alike the first one.
		refused(t, errs[one], "a/x.go", "package a; "+marked[one], "b/x.go", "package b; "+one)
		refused(t, errs[one], "a/m.md", "-", "a/x.go", "package a", "b/x.go", "package b; "+marked[one], "c/x.go", "package c; "+one)
	}
	// A struct of a struct that has itself in it has parts without end, and waits.
	refused(t, api.ErrCycle, "a/x.go", "package a; type t struct { a u }; type ^u struct { a u; b u }")
	// In a file: node by node, a node's kids ahead of itself.
	refused(t, api.ErrValue, "a/x.go", `package a; func f() int { if 1 { x := 1 + ^f }; return true }`)
	refused(t, api.ErrType, "a/x.go", "package a; func f() int { ^if 1 { x := 1 }; y := 1 - true; return true }")
	refused(t, api.ErrField, "a/x.go", "package a; func f() { x := (1.^z - true) - (1 + true); f = 1 }")
	refused(t, api.ErrType, "a/x.go", `package a; func f() { x := (1 ^- true) - 1.z }`)
	refused(t, api.ErrType, "a/x.go", `package a; func f() { x := (1 - 2) - (1 ^+ "s") + true }`)
	refused(t, api.ErrType, "a/x.go", `package a; const k = 1; var ^v bool = k; func f() { 1 }; var w int = true`)
}

// strangers are programs that are not what Read tells of their repositories.
func strangers(p api.Program) []api.Program {
	var list []api.Program
	for _, change := range []func(q *api.Program){
		func(q *api.Program) { q.Trees = nil },
		func(q *api.Program) { q.Trees = q.Trees[1:] },
		func(q *api.Program) { q.Trees = append(q.Trees, api.Tree{}) },
		func(q *api.Program) { q.Trees[0], q.Trees[1] = q.Trees[1], q.Trees[0] },
		func(q *api.Program) { q.Trees[0] = api.Tree{} },
		func(q *api.Program) { q.Trees[2] = copied(p).Trees[0] },
		func(q *api.Program) { q.Repo = api.Repo{} },
		func(q *api.Program) { q.Repo.Files[1].Path = "a" },
		func(q *api.Program) { q.Repo.Files[0].Text += " " + "const other = 1" },
		func(q *api.Program) { q.Repo.Files[0].Text = " " + q.Repo.Files[0].Text },
		func(q *api.Program) { q.Trees[0].Nodes[1].Kind++ },
		func(q *api.Program) { q.Trees[0].Nodes[1].Text += "x" },
		func(q *api.Program) { q.Trees[0].Nodes[1].Num++ },
		func(q *api.Program) { q.Trees[0].Nodes[1].At++ },
		func(q *api.Program) { q.Trees[0].Nodes[1].Kids = nil },
		func(q *api.Program) { q.Trees[0].Nodes[1].Kids = []int{-1, 1 << 40} },
		func(q *api.Program) { q.Trees[0].Nodes = q.Trees[0].Nodes[:2] },
	} {
		q := copied(p)
		change(&q)
		list = append(list, q)
	}
	return list
}

// P14.1, P14.2: programs that scope refuses, and such as are not what Read tells.
func TestScopeFirst(t *testing.T) {
	for _, q := range []struct {
		err  api.Errno
		text string
	}{
		{api.ErrClause, "package ^b"},
		{api.ErrImport, `package a; import ^"q"`},
		{api.ErrTwice, "package a; type T struct { i int; ^i int }"},
		{api.ErrTwice, "package a; func f(x int) { ^x := 1 }"},
		{api.ErrUnknown, "package a; func f() { x := 1 + \"s\"; ^g() }"},
		{api.ErrKind, "package a; const k = 1; var v ^k"},
		{api.ErrAlone, `package a; import "b"; func f() { 1 = ^b }`},
		{api.ErrHidden, `package a; import "b"; func f() { 1 = b.^k }`},
		{api.ErrUnknown, "package a; type t struct { t t }; func f() int { return ^q }"},
	} {
		refused(t, q.err, "a/x.go", q.text, "b/x.go", "package b; const k = 1")
	}
	p := mustRead(t, repo("a/x.go", "package a; func f(x int) int { return x + g(1) }", "a/y.go", "package a; type T struct { i int }; func g(x int) int { return x }; func (r T) m() { }", "b", "none"))
	s, f, m := api.Typ{Kind: api.TypStruct, File: 1, Node: 1}, api.Use{Kind: api.UseTop, Node: 1}, api.Use{Kind: api.UseMethod, File: 1, Node: 11}
	answers := func(p api.Program) (ok int) {
		if l, err := types.Fields(p, s); err == api.OK && len(l) == 1 {
			ok++
		} else if err != api.ErrArg || len(l) > 0 {
			t.Errorf("Fields: %q, %d", l, err)
		}
		if u, found := types.Method(p, s, "m"); found && u == m {
			ok++
		} else if found || u != (api.Use{}) {
			t.Errorf("Method: %v, %t", u, found)
		}
		for _, u := range []api.Use{f, m} {
			if r, l, err := types.Result(p, u); err == api.OK {
				ok++
			} else if err != api.ErrArg || len(l) > 0 || r != (api.Typ{}) {
				t.Errorf("Result: %v, %v, %d", r, l, err)
			}
		}
		return ok
	}
	if n := answers(p); n != 4 {
		t.Errorf("of a program that is right %d calls were answered", n)
	}
	for i, q := range strangers(p) {
		if _, e := scope.Resolve(q); e != (api.Place{Err: api.ErrRepo}) {
			t.Fatalf("Resolve of stranger %d: %v", i, e)
		}
		if x, e := types.Check(q); e != (api.Place{Err: api.ErrRepo}) || len(x.Types) > 0 || len(x.Means) > 0 {
			t.Errorf("Check of stranger %d: %v, %v", i, x, e)
		}
		if n := answers(q); n != 0 {
			t.Errorf("of stranger %d %d calls were answered", i, n)
		}
	}
	for _, change := range []string{"x + true", "x + h(1)", "g"} {
		r := copied(p).Repo
		r.Files[0].Text = strings.Replace(r.Files[0].Text, "x + g(1)", change, 1)
		if n := answers(mustRead(t, r)); n != 0 {
			t.Errorf("of %q %d calls were answered", r.Files[0].Text, n)
		}
	}
	if x, e := types.Check(api.Program{}); e != (api.Place{}) || !types.Same(x, api.Typed{}) {
		t.Errorf("Check of nothing: %v, %v", x, e)
	}
	if x, e := types.Check(mustRead(t, repo("a", "-", "b/x.md", "-"))); e != (api.Place{}) || !types.Same(x, api.Typed{Types: make([][]api.Typ, 2), Means: make([][]api.Use, 2)}) {
		t.Errorf("Check of files that are not the language's: %v, %v", x, e)
	}
}
