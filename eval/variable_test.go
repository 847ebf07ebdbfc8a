package eval_test

import "testing"

// structs are a struct, and one that has it in it.
const structs = "type t struct { n int; b bool; s string }\ntype u struct { o t; n int }"

// P16.1: zero values of all types, of structs in structs too.
func TestZero(t *testing.T) {
	prints(t, "0 false  0 false  0", 12, `var n int
var b bool
var s string
println(n)
println(b)
println(s)
var v u
println(v.o.n)
println(v.o.b)
println(v.o.s)
println(v.n)`, structs)
	prints(t, "0 false  0 false  0", 8, `println(n)
println(b)
println(s)
println(v.o.n)
println(v.o.b)
println(v.o.s)
println(v.n)`, structs, "var n int", "var b bool", "var s string", "var v u")
	prints(t, "", 4, "var v e\nvar w e = v\nv = w", "type e struct { }")
}

// P16.1: a variable is there anew each time that it is done: in each round.
func TestRounds(t *testing.T) {
	prints(t, "0 0 0 3", 3+3*6+2, "i := 0\nfor i < 3 { var x int; println(x); x = 5; i = i + 1 }\nprintln(i)")
	prints(t, "0 1 4", 3+3*6+1, "i := 0\nfor i < 3 { x := i; x = x * i; println(x); i = i + 1 }")
	prints(t, "0 0", 3+2*6+1, "i := 0\nfor i < 2 { var v t; println(v.n); v.n = 7; i = i + 1 }", structs)
	prints(t, "1 1", 3+2*6+1, "i := 0\nfor i < 2 { var x int = 1; println(x); x = 2; i = i + 1 }")
}

// P16.1: in each call the variables are its own.
func TestCalls(t *testing.T) {
	prints(t, "0 1 0 1", 1+2*6, "f(1)\nf(1)", "func f(n int) { var x int; println(x); x = x + n; println(x) }")
	prints(t, "2 1 0 0 1 2", 2+2*7+5, "f(2)", "func f(n int) { x := n; println(x); if n > 0 { f(n - 1) }; println(x) }")
	prints(t, "5 4", 6, "f(5)", "func f(x int) { println(x); x = x - 1; println(x) }")
	prints(t, "1", 6, "x := 1\nf(x)\nprintln(x)", "func f(x int) { x = 2 }")
	prints(t, "7 2 7", 9, "x := 7\nprintln(x)\nf()\nprintln(x)", "func f() { x := 1; x = x + 1; println(x) }")
}

// P16.1: a name means the innermost variable, and behind its block the one round it.
func TestBlocks(t *testing.T) {
	prints(t, "1 2 3 2 1", 11, "x := 1\nprintln(x)\n{ x := 2; println(x); { x := 3; println(x) }; println(x) }\nprintln(x)")
	prints(t, "1 2 1", 7, "x := 1\nprintln(x)\n{ x := x + 1; println(x) }\nprintln(x)")
	prints(t, "2 2", 6, "x := 1\n{ x = 2; println(x) }\nprintln(x)")
	prints(t, "9 1 9", 7, "println(x)\nx := 1\nprintln(x)\nf()", "var x int = 9", "func f() { println(x) }")
	prints(t, "a a 4", 10, "println(x)\nf(x)", `var x string = "a"`, "func f(x string) { println(x); { x := len(x) + 1; x = x + 2; { println(x) } } }")
	prints(t, "true 3", 8, "var len bool = true\nprintln(len)\nprint(3)", "func print(println int) { f(println) }", "func f(x int) { println(x) }")
}

// P16.1: variables of files are there from the beginning on, for all functions, with the values that they begin with.
func TestTops(t *testing.T) {
	prints(t, "5 -5 true text 1 false", 7, `println(A)
println(B)
println(C)
println(D)
println(E)
println(F)`, "var A int = 5", "var B int = -5", "var C bool = true", `var D string = "text"`, "var E int = K * 2 - 3", "const K = 2", "var F bool = !(K < 3) && K == 1 || C2", "const C2 = false")
	prints(t, "0 1 2 2", 11, "println(A)\nf()\nf()\nprintln(A)", "var A int", "func f() { A = A + 1; println(A) }")
	prints(t, "-9223372036854775807 -2", 3, "println(A)\nprintln(B)", "var A int = -9223372036854775807", "var B int = 9223372036854775807 * 2")
}

// P16.1: variables and constants of several files and packages, said with and without a package's name.
func TestPackages(t *testing.T) {
	want := "1 2 3 4\n5 6 12 y\n12 y 0\n6\n"
	parts := []string{"a/x.go", `package a
import "n/b"
import "o/c"
func main() {
	println(own() + " " + b.S)
	b.V = b.V + 1
	c.Show()
	var v b.T = b.W
	v.N = 12
	v.O.S = "y"
	b.W = v
	v.N = 13
	println("5 6 " + c.Two())
	println(c.Two() + " 0")
	println(b.V)
}`, "a/y.go", `package a
func own() string { return first + " " + second }
var first string = "1"
const second = "2"
`, "n/b/x.go", `package b
import "o/c"
const S = "3 4"
var V int = c.K
var W T
type T struct { N int; O c.T }
`, "o/c/x.go", `package c
import "n/b"
const K = 5
type T struct { S string }
func Show() { if b.V != 6 { panic("V") } }
func Two() string { if b.W.N == 12 { return "12 " + b.W.O.S }; return "none" }
`}
	if r := ran(t, nil, parts...); r.Out != want || r.End != 1 {
		t.Errorf("%+v, want %q", r, want)
	}
}

// P16.1: a value that is put somewhere is a copy: what is done to the one does not change the other.
func TestPutCopies(t *testing.T) {
	prints(t, "1 2 0", 9, "var v t\nw := v\nw.n = 1\nx := w\nx.n = 2\nprintln(w.n)\nprintln(x.n)\nprintln(v.n)", structs)
	prints(t, "1 2", 7, "var v t\nvar w t = v\nv.n = 1\nw.n = 2\nprintln(v.n)\nprintln(w.n)", structs)
	prints(t, "1 5 1", 10, "var v u\nvar w t\nw.n = 1\nv.o = w\nw.n = 5\nprintln(v.o.n)\nprintln(w.n)\nx := v.o\nprintln(x.n)", structs)
	prints(t, "3 4", 9, "var v u\nw := v\nv.o.n = 3\nw.o.n = 4\nprintln(v.o.n)\nx := w\nx.o.n = 5\nprintln(w.o.n)", structs)
	prints(t, "7 0 0 x", 9, "var v u\nv.o.n = 7\nw := v.o\nw.n = 0\nprintln(v.o.n)\nprintln(w.n)\nprintln(v.n)\nprintln(v.o.s + \"x\")", structs)
	prints(t, "1 2", 6, "V.n = 1\nw := V\nV.n = 2\nprintln(w.n)\nprintln(V.n)", structs, "var V t")
	prints(t, "0", 5, "var v t\nv.n = 3\nv = W\nprintln(v.n)", structs, "var W t")
}

// P16.1: a value that is handed on, or told, is a copy.
func TestHandedCopies(t *testing.T) {
	prints(t, "9 1", 8, "var v t\nv.n = 1\nf(v)\nprintln(v.n)", structs, "func f(x t) { x.n = 9; println(x.n) }")
	prints(t, "9 1", 8, "var v u\nv.o.n = 1\nf(v.o)\nprintln(v.o.n)", structs, "func f(x t) { x.n = 9; println(x.n) }")
	prints(t, "1 2", 7, "V.n = 1\nf(V)\nprintln(V.n)", structs, "var V t", "func f(x t) { V.n = 2; println(x.n) }")
	prints(t, "5 0", 7, "v := f()\nv.n = 5\nprintln(v.n)\nprintln(V.n)", structs, "var V t", "func f() t { return V }")
	prints(t, "1 2", 9, "println(g(V, f()))\nprintln(V.n)", structs, "var V t", "func f() int { V.n = 2; return 1 }", "func g(x t, y int) int { if x.n == 2 { return 9 }; return y }")
	prints(t, "3", 5, "println(V + f())", "var V int = 1", "func f() int { V = 5; return 2 }")
	prints(t, "1", 5, "println(V.n + f())", structs, "var V t", "func f() int { V.n = 5; return 1 }")
}

// P16.1: a method has a copy of what it is called of, which is evaluated ahead of all that it is handed.
func TestMethods(t *testing.T) {
	get := "func (r t) get() int { return r.n }"
	prints(t, "3 4", 10, "var v t\nv.n = 3\nprintln(v.get())\nv.n = 4\nprintln(v.get())", structs, get)
	prints(t, "8 3", 8, "var v t\nv.n = 3\nprintln(v.set(8))\nprintln(v.n)", structs, "func (r t) set(x int) int { r.n = x; return r.n }")
	prints(t, "8 0", 7, "v := V.set(8)\nprintln(v.n)\nprintln(V.n)", structs, "var V t", "func (r t) set(x int) t { r.n = x; return r }", get)
	prints(t, "0 2", 8, "println(V.add(f()))\nprintln(V.n)", structs, "var V t", "func f() int { V.n = 2; return 0 }", "func (r t) add(x int) int { return r.n + x }")
	prints(t, "6", 2+4+2*3, "println(f(1).add(2).add(3).n)", structs, "func f(x int) t { var v t; v.n = x; return v }", "func (r t) add(x int) t { r.n = r.n + x; return r }")
	prints(t, "5 0", 9, "var v u\nv.o.n = 5\nprintln(v.o.get())\nprintln(v.get())", structs, get, "func (r u) get() int { return r.n }")
	prints(t, "3 2 1 0", 4+3*6+3, "var v t\nv.n = 3\nv.down()", structs, "func (r t) down() { println(r.n); if r.n > 0 { r.n = r.n - 1; r.down() } }")
}
