package types_test

import (
	"strings"
	"testing"

	"shipwright/api"
)

// head is what a package a has, to which statements are handed: a constant, a variable, a function of each type, and structs with fields and methods.
const head = `package a; import "b"
const ki = 1; const kb = true; const ks = "s"
var vi int; var vb bool; var vs string; var vt T; var vu U; var vw b.W
type T struct { i int; b bool; s string; u U; w b.W }
type U struct { i int; t V }
type V struct { i int }
func fi() int { return 1 }
func fb() bool { return true }
func fs() string { return "s" }
func ft() T { return vt }
func fu() U { return vu }
func fn() { }
func f3(x int, y T, z string) bool { return true }
func (r T) mi() int { return 1 }
func (r T) mt() T { return r }
func (r T) mn() { }
func (r T) m2(x int, y U) { }
func (r U) mu() int { return 1 }
func (r V) mv(x V) V { return x }
`

// behindB is the package that head imports.
const behindB = `package b
type W struct { I int; h int; X X; x X }
type X struct { I int; h int }
type h struct { I int }
const K = 1; const k = 1
var V int; var W2 W; var v int
func F() int { return 1 }
func G(x int, w W) W { return w }
func N() { }
func H() h { return hh }
var hh h
func (r W) M() int { return r.h }
func (r W) m() int { return r.x.h }
func (r W) N() { }
func (r X) M(x X) X { return x }
func (r h) M() int { return r.I }
`

// rightBody holds Check of statements in a function against no error.
func rightBody(t *testing.T, list ...string) {
	t.Helper()
	for _, s := range list {
		right(t, "a/x.go", head+"func test(pi int, pt T) { "+s+" }", "b/x.go", behindB)
	}
}

// refusedBody holds Check of statements in a function against an error, at the sign ^ in each.
func refusedBody(t *testing.T, err api.Errno, list ...string) {
	t.Helper()
	for _, s := range list {
		refused(t, err, "a/x.go", head+"func test(pi int, pt T) { "+s+" }", "b/x.go", behindB)
	}
}

// P14.1: the chapter's examples.
func TestExamples(t *testing.T) {
	a := "package a; type t struct{x int}; func (r t) get() int{return r.x}; func f() { }; func g() { "
	listed(t, `file
		struct field:int basic:int
		func:int recv:0.1 named:0.1=top0.1 basic:int block return dot:int=field0.2 name:0.1=local0.5
		func block
		func block
		var:0.1 named:0.1=top0.1
		assign dot:int=field0.2 name:0.1=local0.16
		binary:int call:int=method0.4 dot=method0.4 name:0.1=local0.16 int:int`,
		0, "a/x.go", a+"var v t; v.x = v.get() + 1 }")
	for s, err := range map[string]api.Errno{
		`v := 1 ^+ "a"`:              api.ErrType,
		"^v := println(1)":           api.ErrType,
		"^get()":                     api.ErrUnknown,
		"^t()":                       api.ErrCall,
		"^1":                         api.ErrCall,
		"var v t; if v ^== v { }":    api.ErrType,
		"var v t; v.^get = 1":        api.ErrValue,
		"var v t; v.^z = 1":          api.ErrField,
		"^if f() { }":                api.ErrType,
		"^return 1":                  api.ErrReturn,
		"var v t; v.x = v.get() + 1": api.OK,
	} {
		if err == api.OK {
			right(t, "a/x.go", a+s+" }")
		} else {
			refused(t, err, "a/x.go", a+s+" }")
		}
	}
}

// P14.1: the types and meanings of all nodes, each Kind among them, said by hand.
func TestListing(t *testing.T) {
	b := `package b; type S struct { N int; T string }; const K = "k"; var V S; func F(x S, y bool) S { return x }; func (r S) M(n int) int { return n + r.N }`
	bList := `file
		struct field:int basic:int field:string basic:string
		const:string text:string
		var:1.1 named:1.1=top1.1
		func:1.1 param:1.1 named:1.1=top1.1 param:bool basic:bool named:1.1=top1.1 block return name:1.1=local1.11
		func:int recv:1.1 named:1.1=top1.1 param:int basic:int basic:int block return binary:int name:int=local1.22 dot:int=field1.2 name:1.1=local1.20`
	a := `package a; import "b"; const k = -9; const t = "t"; const o = true
		var i int = k; var s string = b.K; var z b.S
		type T struct { i int; b b.S; o bool }`
	listed(t, `file import
		const:int unary:int int:int const:string text:string const:bool bool:bool
		var:int basic:int name:int=top0.2 var:string basic:string dot:string=top1.6 name=import0.1 var:1.1 far:1.1=top1.1 name
		struct field:int basic:int field:1.1 far:1.1=top1.1 name field:bool basic:bool`,
		0, "a/x.go", a, "b/x.go", b)
	listed(t, bList, 1, "a/x.go", a, "b/x.go", b)
	listed(t, `file import
		func block
		var:1.1 far:1.1=top1.1 name call:1.1=top1.10 dot=top1.10 name=import0.1 dot:1.1=top1.8 name=import0.1 bool:bool
		short:int dot:int=field1.2 dot:1.1=top1.8 name=import0.1
		assign dot:string=field1.4 name:1.1=local0.4 dot:string=top1.6 name=import0.1
		if binary:bool binary:bool call:int=method1.19 dot=method1.19 name:1.1=local0.4 name:int=local0.13 int:int unary:bool bool:bool
		block expr call=builtin0.1 name=builtin0.1 name:int=local0.13
		block for binary:bool call:int=builtin0.2 name=builtin0.2 dot:string=field1.4 name:1.1=local0.4 call:int=builtin0.3 name=builtin0.3 name:int=local0.13
		block assign name:int=local0.13 binary:int name:int=local0.13 int:int
		expr call=builtin0.4 name=builtin0.4 binary:string text:string dot:string=field1.4 dot:1.1=top1.8 name=import0.1
		return`,
		0, "a/x.go", `package a; import "b"; func f() {
			var v b.S = b.F(b.V, true)
			n := b.V.N
			v.T = b.K
			if v.M(n) == 1 && !false { println(n) } else { for len(v.T) < arg(n) { n = n - 1 } }
			panic("p" + b.V.T); return
		}`, "b/x.go", b)
	// A file that is not the language's stands ahead; a method is called of what a call tells, a function is declared behind, in another file.
	p, x := right(t, "a.md", "-", "a/x.go", "package a; func f(p S) int { return g(p).get(p, 1) }", "a/y.go", "package a; func (r S) get(s S, i int) int { return i }; func g(p S) S { q := p; return q }; type S struct { }")
	for file, want := range []string{"", `file func:int param:2.21 named:2.21=top2.21 basic:int block return
		call:int=method2.1 dot=method2.1 call:2.21=top2.12 name=top2.12 name:2.21=local1.2 name:2.21=local1.2 int:int`,
		`file func:int recv:2.21 named:2.21=top2.21 param:2.21 named:2.21=top2.21 param:int basic:int basic:int block return name:int=local2.6
		func:2.21 param:2.21 named:2.21=top2.21 named:2.21=top2.21 block short:2.21 name:2.21=local2.13 return name:2.21=local2.17
		struct`} {
		if got := listing(p, x, file); got != strings.Join(strings.Fields(want), " ") {
			t.Errorf("file %d:\n%s\nwant\n%s", file, got, want)
		}
	}
}

// P14.1: NodeText, and what else stands by itself.
func TestTexts(t *testing.T) {
	long := strings.Repeat("s", 1024)
	pairs := strings.Repeat(`\n`, 1023) + `\"`
	for _, s := range []string{long, pairs, ""} {
		right(t, "a/x.go", `package a; const k = "`+s+`"`)
		right(t, "a/x.go", `package a; func f() string { return "`+s+`" }`)
		right(t, "a/x.go", `package a; var v string = "`+s+`"`)
	}
	for _, s := range []string{long + "s", pairs + "s", pairs + `\\`} {
		refused(t, api.ErrLarge, "a/x.go", `package a; const k = ^"`+s+`"`)
		refused(t, api.ErrLarge, "a/x.go", `package a; var v string = ^"`+s+`"`)
		refused(t, api.ErrLarge, "a/x.go", `package a; func f() string { return ^"`+s+`" }`)
		refused(t, api.ErrLarge, "a/x.go", `package a; func f() { println(1); if len("a" + (^"`+s+`")) == 1 { } }`)
		// Ahead of what is wrong with the node round it.
		refused(t, api.ErrLarge, "a/x.go", `package a; func f() { x := 1 + ^"`+s+`" }`)
		refused(t, api.ErrLarge, "a/x.go", `package a; func f() { ^"`+s+`" }`)
		refused(t, api.ErrLarge, "a/x.go", `package a; func f() { ^"`+s+`" = 1 }`)
		// As what is called nothing is said of it.
		refused(t, api.ErrCall, "a/x.go", `package a; func f() { ^"`+s+`"(1) }`)
		refused(t, api.ErrCall, "a/x.go", `package a; func f() { x := ^(1 + "`+s+`")() }`)
	}
	// A constant of such a text has its type where it is named ahead of it; what is wrong with that is told first.
	refused(t, api.ErrType, "a/x.go", `package a; func f() int { return 1 ^+ k }; const k = "`+long+`s"`)
	refused(t, api.ErrLarge, "a/x.go", `package a; func f() string { return "s" + k }`, "a/y.go", `package a; const k = ^"`+long+`s"`)
	refused(t, api.ErrLarge, "a/x.go", `package a; const k = ^"`+long+`s"; func f() int { return 1 + k }`)
	right(t, "a/x.go", "package a; const k = -9223372036854775807; const l = 0; const m = false; var v int = -k; var w bool = !m; var x int = -(-(l))")
}

// P14.1: names of what has a value, and of what has none.
func TestNames(t *testing.T) {
	rightBody(t, "vi = ki + vi + pi", "vb = kb && vb", "vs = ks + vs", "vt = pt; pt = vt", "x := pi; y := x; pi = y", "var x T; y := x; vt = y", "vi = b.K + b.V; b.V = vi", "b.W2 = vw; vw = b.W2",
		"b := pi; pi = b", "len := pi; pi = len", "println := pt; vt = println; { T := 1; T = T + 1 }")
	refusedBody(t, api.ErrValue, "vi = ^fi", "vi = ^T", "vi = ^println", "vi = ^len", "vi = 1 + ^fn", "^fi = 1", "^T = 1", "^arg = 1", "^fi", "^T", "^panic", "^println = println", "x := ^fi", "x := ^T", "-^fi", "println(^fi)", "fi(^fi)", "^fi.x", "^T.i", "^println.x", "^T.x()", "^fi.x()", "if ^fi { }", "for ^T { }", "return ^fn", "var x T = ^T", "var x int = ^fi",
		"vi = b.^F", "vi = b.^W", "b.^F = 1", "b.^W = 1", "b.^F", "b.^W", "x := b.^F", "b.^F.x", "b.^W.I", "b.^W.I()", "b.^F.x()", "println(b.^F)", "vi = -b.^W", "b.^N", "x := b.^N")
	refused(t, api.ErrValue, "a/x.go", "package a; func f() int { return ^g }", "a/y.go", "package a; func g() int { return 1 }")
	right(t, "a/x.go", "package a; func f() int { return g }", "a/y.go", "package a; var g int")
	right(t, "a/x.go", "package a; func f() int { return g }", "a/y.go", "package a; const g = 1")
	refused(t, api.ErrReturn, "a/x.go", "package a; func f() int { ^return g }", "a/y.go", "package a; const g = true")
}

// P14.1: a NodeDot behind what has fields and methods, and what has none of that name.
func TestDots(t *testing.T) {
	rightBody(t, "vi = pt.i; vb = pt.b; vs = pt.s; vu = pt.u; vw = pt.w", "vi = pt.u.i + pt.u.t.i + ft().u.t.i + pt.mt().mt().i", "pt.u.t.i = 1; pt.i = pt.mi(); pt.u = fu()", "pt.mn(); ft().mn(); ft().mt().u.t.mv(pt.u.t).mv(vu.t)", "x := pt.u.t; vi = x.i + pt.u.mu()",
		"vi = vw.I + vw.X.I + vw.M() + vw.X.M(vw.X).I + pt.w.I + b.W2.X.I + b.G(1, pt.w).X.I", "vw.I = 1; pt.w.X.I = vw.X.I; b.W2.X = vw.X", "vi = b.H().I + b.H().M()")
	refusedBody(t, api.ErrField, "pi.^i = 1", "vi = ki.^i", "vi = 1.^i", "vi = true.^i", `vi = "s".^i`, "vi = fi().^i", "vi = fn().^i", "vi = println(1).^i", "vi = pt.^z", "vi = pt.^I", "vi = pt.^t", "vi = pt.i.^i", "vi = pt.b.^b", "vi = pt.u.^u", "vi = pt.u.^mi", "vi = pt.^mu", "vi = pt.u.t.^t", "pt.^z = 1", "pt.^z", "pt.^z()", "pt.^z(1, 2)", "pt.^mu()", "vu.^mn()", "vt.mi().^i", "vi = (pi + 1).^i", "vi = (-pi).^i", "vi = pt.^T", "vi = pt.^r", "vi = pt.^fi", "pt.^fi()", "vi = b.V.^I", "vi = b.K.^K", "b.F().^I()", "b.N().^I",
		// not shown, and not there either
		"vi = vw.^z", "vi = vw.^i", "vw.^z()", "vi = vw.X.^x", "vi = b.H().^h")
	refusedBody(t, api.ErrHidden, "vi = vw.^h", "vw.^h = 1", "vw.^h", "vw.^h()", "vi = vw.^x.I", "vi = vw.^x.h", "vi = vw.X.^h", "vi = vw.^m()", "vw.^m()", "vi = vw.^m", "vw.^m = 1", "vw.^m(1)", "vi = pt.w.^h", "vi = b.W2.^h", "vi = b.G(1, vw).^m()", "x := ft().w.X.^h")
	refusedBody(t, api.ErrValue, "vi = pt.^mi", "pt.^mi = 1", "pt.^mi", "pt.^mn = 1", "pt.u.^mu", "vi = vw.^M", "vw.X.^M", "vi = pt.^mi.x", "vi = pt.^mt.i", "pt.^mt.mi()", "println(pt.^mi)", "x := pt.^mn", "if pt.^mi { }")
}

// P14.1: fields and methods of another package's struct, whichever way one came to it.
func TestHidden(t *testing.T) {
	c := `package c; import "b"; type S struct { W b.W; w b.W }; func G() b.W { return v }; var v b.W; var V S`
	bb := "package b; type W struct { I int; i int }; func (r W) M() { }; func (r W) m() { }"
	// The file does not import the struct's package itself.
	right(t, "a/x.go", `package a; import "c"; func f() int { c.G().M(); c.V.W.I = 1; return c.G().I + c.V.W.I }`, "b/x.go", bb, "c/x.go", c)
	for _, s := range []string{"return c.G().^i", "c.G().^m()", "return c.V.^w.I", "return c.V.W.^i", "c.V.W.^i = 1", "c.V.W.^m()"} {
		refused(t, api.ErrHidden, "a/x.go", `package a; import "c"; func f() int { `+s+` }`, "b/x.go", bb, "c/x.go", c)
	}
	// A package of the same name in another folder is another one; another file of the same folder is none.
	refused(t, api.ErrHidden, "a/x.go", `package a; import "b/a"; func f(p Q) int { return a.V.^i }; type Q struct { }`, "b/a/x.go", "package a; type T struct { i int }; var V T")
	right(t, "a/x.go", "package a; func f(p T) int { p.m(); return p.i }", "a/y.go", "package a; type T struct { i int }", "a/z.go", "package a; func (r T) m() { }")
	right(t, "q/a/x.go", "package a; func f(p T) int { p.m(); return p.i }", "q/a/y.go", "package a; type T struct { i int }; func (r T) m() { }")
	right(t, "a/x.go", `package a; import "b"; func f(p b.T) int { p.X_(); return p.A + p.Z9 }`, "b/x.go", "package b; type T struct { A int; Z9 int }; func (r T) X_() { }")
	refused(t, api.ErrHidden, "a/x.go", `package a; import "b"; func f(p b.T) int { return p.^_A }`, "b/x.go", "package b; type T struct { _A int }")
	refused(t, api.ErrHidden, "a/b/x.go", `package b; import "b/a"; func f(p a.T) int { return p.^i }`, "b/a/x.go", "package a; type T struct { i int }")
}

// P14.1: each sign with each two types; none among them, and two structs of the same fields.
func TestSigns(t *testing.T) {
	values := map[string][]string{
		"int": {"pi", "1", "vi", "fi()"}, "bool": {"vb"}, "string": {`"s"`}, "T": {"pt"}, "U": {"vu"}, "none": {"fn()"}, "W": {"vw"},
	}
	is := map[string]string{
		"int && int": "", "bool && bool": "bool", "bool || bool": "bool",
		"int == int": "bool", "bool == bool": "bool", "string == string": "bool",
		"int != int": "bool", "bool != bool": "bool", "string != string": "bool",
		"int < int": "bool", "string < string": "bool", "int <= int": "bool", "string <= string": "bool",
		"int > int": "bool", "string > string": "bool", "int >= int": "bool", "string >= string": "bool",
		"int + int": "int", "string + string": "string",
		"int - int": "int", "int * int": "int", "int / int": "int", "int % int": "int",
	}
	tried := 0
	for left, lefts := range values {
		for rightType, rights := range values {
			for _, sign := range strings.Fields("&& || == != < <= > >= + - * / %") {
				want := is[left+" "+sign+" "+rightType]
				for _, x := range lefts {
					for _, y := range rights {
						tried++
						if want == "" {
							refusedBody(t, api.ErrType, "x := "+x+" ^"+sign+" "+y)
							continue
						}
						rightBody(t, "x := "+x+" "+sign+" "+y+"; var y "+want+" = x")
						if other := map[string]string{"int": "bool", "bool": "string", "string": "int"}[want]; len(lefts) == 1 {
							refusedBody(t, api.ErrType, "x := "+x+" "+sign+" "+y+"; var ^y "+other+" = x")
						}
					}
				}
			}
		}
	}
	if tried != 13*100 {
		t.Errorf("%d were tried", tried)
	}
	for of, list := range values {
		for sign, want := range map[string]string{"-": "int", "!": "bool"} {
			if of == want {
				rightBody(t, "x := "+sign+list[0]+"; var y "+want+" = x")
				refusedBody(t, api.ErrType, "x := "+sign+list[0]+"; var ^y T = x")
			} else {
				refusedBody(t, api.ErrType, "x := ^"+sign+list[0])
			}
		}
	}
	// A struct of the same name and the same fields in another package is another one; so it is with what is put into a variable.
	refused(t, api.ErrType, "a/x.go", `package a; import "b"; type T struct { I int }; func f(p T, q b.T) { ^p = q }`, "b/x.go", "package b; type T struct { I int }")
	refused(t, api.ErrType, "a/x.go", `package a; import "b"; type T struct { I int }; func f(p T, q b.T) { x := p.I + (p ^+ q) }`, "b/x.go", "package b; type T struct { I int }")
	refusedBody(t, api.ErrType, "x := !(^!1)", "x := -(^-vb)", "x := ^!(-1)", "x := 1 + 2 ^+ vs", "x := 1 + (2 ^+ vs)", "x := (1 ^+ vs) + 2", "x := vb ^&& 1 + 1", "x := 1 ^== (1 == 1)", "x := vs + vs ^- vs")
	rightBody(t, "x := 1 + 2 * 3 < 4 - -5 % 6 && !vb || (vs + vs == ks) == (1 != 2)")
}

// P14.1: what is called, and what is not.
func TestCalled(t *testing.T) {
	rightBody(t, "fn()", "fi(); x := fi(); vi = fi()", "vt = ft(); ft(); ft().mn()", "vt.mn(); vi = vt.mi(); vt.mt().mt().mn()", "vt.m2(1, vu); vu.mu(); vu.t.mv(vu.t)", `f3(1, vt, "s"); vb = f3(pi, pt, vs)`, `x := f3(1 + 1, ft(), "s" + ks) && f3(fi(), vt.mt(), fs())`,
		"b.N(); vi = b.F(); vw = b.G(1, vw); b.G(b.F(), b.W2)", "vw.N(); vi = vw.M(); vw.X.M(vw.X).M(vw.X)",
		`println(1); println(true); println("s"); println(vi); println(vb); println(vs); println(len("s")); println(fi()); println(pt.b)`, `x := len("s") + len(vs) + len(vs + ks) + arg(0) + arg(len(vs)); vi = x`, `panic("s"); panic(vs); panic(fs())`,
		"test(1, vt); { test(pi, pt) }")
	refusedBody(t, api.ErrCall, "^T()", "^T(1)", "x := ^ki()", "^vi()", "^pi()", "^pt()", "x := ^pi()", "x := pi; ^x()", "var x T; ^x(1)", "^1()", `^"s"()`, "^true()", "^(-1)()", "^(pi + 1)()", "^fi()()", "^fn()()", "vi = 1 + ^fi()()", "^println(1)()", "^vt.mt()()", "^vt.mt()().mi()",
		"^b.K()", "^b.V()", "^b.W()", "x := ^b.K(1)", "^b.F()()",
		"^pt.i()", "^pt.u()", "vi = ^pt.i()", "^pt.u.t()", "^vw.I()", "^vw.X()", "^vw.X.I()", "^ft().i()", "x := ^pt.mt().i(1)",
		// a built-in name that is declared anew
		"println := 1; ^println(1)", "len := pt; x := ^len(vs)", "{ arg := 1; pi = arg }; pi = arg(1); arg := 1; x := ^arg(1)", "var panic string; ^panic(vs)")
	refused(t, api.ErrCall, "a/x.go", "package a; const println = 1; func f() { ^println(1) }")
	refused(t, api.ErrCall, "a/x.go", "package a; type len struct { }; func f() { x := 1 + ^len(1) }")
	refused(t, api.ErrCall, "a/x.go", "package a; func f(arg int) { x := ^arg(1) }")
	refused(t, api.ErrCall, "a/x.go", "package a; type T struct { }; func (panic T) f() { ^panic(1) }")
	right(t, "a/x.go", "package a; func println() int { return 1 }; func f() { x := println() }")
	refused(t, api.ErrCall, "a/x.go", "package a; func println() int { return 1 }; func f() { ^println(1) }")
	right(t, "a/x.go", "package a; func f() { println(len(2, 3) - len(4, 5)) }; func len(x int, y int) int { return x }")
	// A method's name is no function's.
	refused(t, api.ErrUnknown, "a/x.go", "package a; type T struct { }; func (r T) m() { ^m() }")
	right(t, "a/x.go", "package a; type T struct { }; func (r T) m() { m(1); r.m() }; func m(x int) { }")
}

// P14.1: what a call is handed: as many as there are params, and of their types.
func TestHanded(t *testing.T) {
	refusedBody(t, api.ErrCall, "^fn(1)", "^fi(1)", "x := ^fi(1, 2)", "^f3()", "^f3(1)", "^f3(1, vt)", `^f3(1, vt, "s", 1)`, "^vt.mi(1)", "^vt.mn(vt)", "^vt.m2()", "^vt.m2(1)", "^vt.m2(1, vu, 1)", "^vt.m2(vt, 1, vu)", "^vu.t.mv()", "^b.F(1)", "^b.G()", "^b.G(1)", "^b.G(1, vw, 1)", "^vw.M(1)", "^vw.X.M()", "^vw.X.M(vw.X, 1)",
		"^println()", "^println(1, 2)", `^println("s", "s")`, "x := ^len()", "x := ^len(vs, vs)", "x := ^arg()", "x := ^arg(1, 2)", "^panic()", "^panic(vs, vs)", "^test()", "^test(1)", "^test(1, vt, 1)",
		// ahead of what has not its param's type
		"^f3(vt, 1)", "^println(vt, vt)", "x := ^len(1, 1)", "^vt.m2(true)")
	refusedBody(t, api.ErrType, `^f3(true, vt, "s")`, `^f3("s", vt, "s")`, `^f3(vt, vt, "s")`, `^f3(1, 1, "s")`, `^f3(1, vu, "s")`, `^f3(1, vw, "s")`, "^f3(1, vt, 1)", "^f3(1, vt, true)", "^f3(vt, 1, vs)", `^f3(1, fn(), "s")`, `^f3(fn(), vt, "s")`, `^f3(println(1), vt, "s")`, "x := ^f3(1, vt, vt.mn())",
		"^vt.m2(true, vu)", "^vt.m2(1, vt)", "^vt.m2(vu, 1)", "^vu.t.mv(vu)", "x := ^vu.t.mv(1)", "^vt.mt().m2(1, vt.mt())",
		"x := ^b.G(vs, vw)", "^b.G(1, vw.X)", "^b.G(1, vt)", "^vw.X.M(vw)", "^vw.X.M(vt)",
		"^println(vt)", "^println(vw)", "^println(fn())", "^println(println(1))", "^println(vt.mn())", "x := ^len(1)", "x := ^len(true)", "x := ^len(vt)", "x := ^len(fn())", "x := ^len(len(vs))", "x := ^arg(true)", "x := ^arg(vs)", "x := ^arg(vt)", "x := ^arg(fn())", "^panic(1)", "^panic(true)", "^panic(vt)", "^panic(fn())", "^panic(panic(vs))", "^test(1, vu)", "^test(vt, 1)")
	// Of two structs with the same fields the right one.
	refused(t, api.ErrType, "a/x.go", "package a; type T struct { i int }; type U struct { i int }; func f(p T) { }; func g(p U) { ^f(p) }")
	right(t, "a/x.go", "package a; func f(p T) { g(1, p) }", "a/y.go", "package a; type T struct { i int }; func g(i int, p T) { f(p) }")
	refused(t, api.ErrType, "a/x.go", "package a; func f(p T) { ^g(p, 1) }", "a/y.go", "package a; type T struct { i int }; func g(i int, p T) { f(p) }")
}

// P14.1: of a NodeCall: its kids' errors ahead of its own; of what is called only what is beneath a point, and the point itself.
func TestCalledKids(t *testing.T) {
	refusedBody(t, api.ErrType, `T(1 ^+ "s")`, `1(1 ^+ "s")`, `fi(1 ^+ "s")`, `f3(1 ^+ "s")`, `f3(vt, vt, 1 ^+ "s")`, `f3(true, ^-"s", !1)`, `println(1, 1 ^+ "s")`, `fi()(1 ^+ "s")`, `(^-"s").x(!1)`, `(1 ^+ "s").mi(!1)`, `vt.i(1 ^+ "s")`, `vt.mi(1 ^+ "s")`, `vt.m2(1 ^+ "s")`, `b.K(1 ^+ "s")`, `ft(1 ^+ "s").mi()`, `x := ^len(1).x.y()`)
	refusedBody(t, api.ErrField, `vt.^z(1 + "s")`, `fi().^z(1 + "s")`, `ki.^z()`, `vt.i.^z()`, `fi().^i()`)
	refusedBody(t, api.ErrHidden, `vw.^h(1 + "s")`, `vw.^m(1)`, "vw.^x(1)", "vw.^x.I()", "vw.^x.M()")
	refusedBody(t, api.ErrValue, "^fi.x()", "^T.mi()", "vt.^mi.x()", "vt.^mi.mi()", "b.^F.x()", "b.^W.M()", "^println.x()", "println(^fi)", "fi(^T)", "1(^T)", "T(^T)", "vt.mi(vt.^mi)", "vt.i(vt.^mi)")
	refusedBody(t, api.ErrCall, `^(1 + "s")(1)`, `^(-"s")()`, "^fi(T)()", `^println(1 + "s")()`, "^(fi + T)(1)", "^vt.z()()", "^vw.h()()", "^T()()", "x := ^(!vt.i)(2)", "T(^1())", "1(^2())", "fi(^T())", "^fi(T())()")
	refusedBody(t, api.ErrCall, "^ft()(1).mi()", "^T().mi()", "^pi().z", "x := ^pi().z.y", "vt.m2(^1(), 2())", "(^1()).mi(2())")
}
