package eval_test

import (
	"testing"

	"shipwright/api"
)

// P16.1: the chapter's examples.
func TestExamples(t *testing.T) {
	prints(t, "7 ab 7", 4, "println(1 + 2 * 3)\nprintln(\"a\" + \"b\")\nprintln(arg(0))")
	givesUp(t, "divide", "-3 1", 4, "println(7 / (0 - 2))\nprintln(7 % (0 - 2))\nprintln(1 / arg(5))")
	if r := ran(t, nil, "a/x.go", inMain("for true {}")); r != (api.Ran{End: api.EndSteps, Steps: api.MaxSteps}) {
		t.Errorf("for true: %+v", r)
	}
	givesUp(t, "no", "", 2, `panic("no")`)
	prints(t, "5 1", 7, "x := 1\nif x < 2 { x := 5; println(x) }\nprintln(x)")
}

// P16.1: each statement takes a step of its own; main takes one, too.
func TestSteps(t *testing.T) {
	prints(t, "", 1, "")
	prints(t, "", 2, "{ }")
	prints(t, "1 2", 5, "{ println(1); { println(2) } }")
	prints(t, "", 2, "var x int")
	prints(t, "", 2, "var x int = 1 + 2 * 3 - len(\"a\")")
	prints(t, "", 2, "x := 1")
	prints(t, "", 3, "x := 1\nx = x + 1")
	prints(t, "", 2, "len(\"a\")") // its value is let go
	prints(t, "", 2, "arg(0)")
	prints(t, "", 2, "return")
	prints(t, "", 3, "if true { }")
	prints(t, "", 2, "if false { }")
	prints(t, "", 3, "if true { } else { println(1) }")
	prints(t, "1", 4, "if false { } else { println(1) }")
	prints(t, "2", 5, "if false { } else if true { println(2) }")
	prints(t, "", 3, "if false { println(1) } else if false { println(2) }")
	prints(t, "3", 5, "if false { println(1) } else if false { println(2) } else { println(3) }")
	prints(t, "", 3, "for false { }")
	prints(t, "", 10, "x := true\nfor x { x = false }\nfor x { x = true }\nx = false") // main, :=, for, its step, block, =, its step; for, its step; =
}

// P16.1: a call takes a step behind what it is handed; its block takes none by itself.
func TestCallSteps(t *testing.T) {
	prints(t, "", 3, "f()", "func f() { }")
	prints(t, "", 4, "f()", "func f() { return }")
	prints(t, "3", 4, "println(f(1, 2))", "func f(x int, y int) int { return x + y }")
	prints(t, "10", 8, "println(f(f(1, 2), f(3, 4)))", "func f(x int, y int) int { return x + y }")
	prints(t, "3", 7, "x := f(1)\nprintln(x + f(0))", "func f(n int) int { return n + 1 }")
	prints(t, "1", 6, "var v t\nv.n = 1\nprintln(v.get())", "type t struct { n int }", "func (r t) get() int { return r.n }")
	prints(t, "1 4", 9, "println(1)\nf()\nprintln(4)", "func f() { g(); g() }", "func g() { }")
	prints(t, "1", 6, "f(1)", "func f(x int) { { println(x); return }; println(2) }")
}

// P16.1: an if's condition, and what it has for it.
func TestIf(t *testing.T) {
	prints(t, "1 3", 6, "x := 1\nif x == 1 { println(1) } else { println(2) }\nprintln(3)")
	prints(t, "2 3", 6, "x := 2\nif x == 1 { println(1) } else { println(2) }\nprintln(3)")
	ahead := `func f(x int) string { if x < 0 { return "below" } else if x == 0 { return "nought" } else { if x > 9 { return "great" }; return "small" } }`
	prints(t, "below nought small small great", 1+(2+3)+(2+4)+2*(2+5)+(2+6), "println(f(-5))\nprintln(f(0))\nprintln(f(1))\nprintln(f(9))\nprintln(f(10))", ahead)
	prints(t, "1 true 2", 9, "if f() { println(2) }", "func f() bool { println(1); x := true; println(x); return x }")
	givesUp(t, "divide", "", 2, "if 1 / 0 == 0 { println(1) } else { println(2) }")
}

// P16.1: a for asks its condition ahead of each round.
func TestFor(t *testing.T) {
	prints(t, "0 1 2 3", 3+3*4+2, "x := 0\nfor x < 3 { println(x); x = x + 1 }\nprintln(x)")
	prints(t, "9", 4, "for false { println(1) }\nprintln(9)")
	prints(t, "0 0 0 1 1 0 1 1", 3+2*(4+2*5+1+1)+1, `x := 0
for x < 2 {
	y := 0
	for y < 2 { println(x); println(y); y = y + 1 }
	x = x + 1
}`)
	prints(t, "1 2", 2+2*(4+2)+4, "for f() { println(V) }", "var V int", "func f() bool { V = V + 1; return V < 3 }")
	givesUp(t, "divide", "1", 8, "x := 1\nfor 1 / x == 1 { println(x); x = 0 }")
}

// P16.1: a return ends the function, from within loops and blocks, and nothing else.
func TestReturn(t *testing.T) {
	prints(t, "1 2", 8, "f()\nprintln(2)", "func f() { println(1); { { return } }; println(3) }")
	prints(t, "3", 5+3*4+5, "println(f(3))", "func f(n int) int { x := 0; for true { if x == n { return x }; x = x + 1 }; return 9 }")
	prints(t, "6", 18, "println(f())", "func f() int { x := 1; for x < 9 { for true { if x == 6 { return x } else { x = x + 5 } } }; return 0 }")
	prints(t, "1 2", 10, "println(f(true))\nprintln(f(false))", "func f(x bool) int { if x { return 1 }; return 2 }")
	prints(t, "1", 8, "println(1)\nif true { for true { return } }\nprintln(2)") // main's own
	prints(t, "2", 8, "println(f())", "func f() int { g(); return 2 }", "func g() int { { return 1 } }")
	prints(t, "1 0", 11, "f(1)\nf(0)", "func f(x int) { println(x); if x == 0 { return } }")
}

// P16.1: what is handed on is evaluated in order, ahead of the call's step.
func TestOrderOfCalls(t *testing.T) {
	ahead := "func p(x int) int { println(x); return x }"
	prints(t, "1 2 3 6", 1+1+3*3+1+1, "println(f(p(1), p(2), p(3)))", ahead, "func f(x int, y int, z int) int { return x + y + z }")
	prints(t, "1 2 3 4 10", 1+1+4*3, "println(p(1) + p(2) + (p(3) + p(4)))", ahead)
	prints(t, "1 2 3 false", 1+1+3*3, "println(p(1) + p(2) < p(3))", ahead)
	prints(t, "5 1 2 8", 2+(4+3)+2*3+2, "println(q().sum(p(1), p(2)))", ahead, "type t struct { n int }", "func (r t) sum(x int, y int) int { return r.n + x + y }", "func q() t { var v t; v.n = p(5); return v }")
	givesUp(t, "divide", "1", 5, "f(p(1), 1 / 0, p(2))", ahead, "func f(x int, y int, z int) { println(9) }")
}

// P16.1: functions that call themselves, and one another.
func TestRecursion(t *testing.T) {
	prints(t, "120", 1+1+5*3+3+1, "println(f(5))", "func f(n int) int { if n == 0 { return 1 }; return n * f(n - 1) }")
	prints(t, "true false", 1+(1+4*3+4)+(1+5*3+4), "println(even(4))\nprintln(even(5))", "func even(n int) bool { if n == 0 { return true }; return odd(n - 1) }", "func odd(n int) bool { if n == 0 { return false }; return even(n - 1) }")
	prints(t, "55", 2+89*4+88*3, "println(fib(10))", "func fib(n int) int { if n < 2 { return n }; return fib(n - 1) + fib(n - 2) }")
	prints(t, "3 2 1 0 0 1 2 3", 2+3*7+5, "f(3)", "func f(n int) { x := n; println(x); if n > 0 { f(n - 1) }; println(x) }")
}

// P16.1: a run gives up with panic's string, one that is made as well.
func TestPanic(t *testing.T) {
	givesUp(t, "", "", 2, `panic("")`)
	givesUp(t, "a b\n", "", 2, `panic("a b\n")`)
	givesUp(t, "xyz", "1", 4, "println(1)\ns := \"x\"\npanic(s + \"yz\")\nprintln(2)")
	givesUp(t, "in f", "1 2", 9, "println(1)\nfor true { f(); println(3) }", `func f() { println(2); panic("in f") }`)
	givesUp(t, "first", "", 4, "panic(f())", `func f() string { panic("first"); return "second" }`)
	givesUp(t, "long", "", 3, "s := \"0123456789012345678901234567890123456789012345678901234567890123\"\npanic(s + s + s + s + (s + s + s + s) + (s + s + s + s + (s + s + s + s)) + \"x\")")
	givesUp(t, "divide", "", 2, `panic("divide")`)
}
