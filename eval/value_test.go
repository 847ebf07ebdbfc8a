package eval_test

import (
	"math"
	"strings"
	"testing"

	"shipwright/api"
)

// P16.1: values that stand there, and constants and variables that have them.
func TestPlain(t *testing.T) {
	prints(t, "0 12 9223372036854775807 true false  a\\b\"c", 8, `println(0)
println(12)
println(9223372036854775807)
println(true)
println(false)
println("")
println("a\\b\"c")`)
	prints(t, "-5 5 true k -5 k", 9, `println(N)
println(-N)
println(T)
println(S)
x := N
y := S
println(x)
println(y)`, "const N = -5", "const T = true", `const S = "k"`)
	if r := ran(t, nil, "a/x.go", inMain(`println("a\n\nb\n")`)); r.Out != "a\n\nb\n\n" {
		t.Errorf("line feeds in a text: %q", r.Out)
	}
}

// P16.1: signs ahead of one value.
func TestUnary(t *testing.T) {
	prints(t, "-7 7 0 -9223372036854775807 false true true", 8, `println(-7)
println(-(-7))
println(-0)
println(-arg(2))
println(!true)
println(!false)
println(!!true)`)
	prints(t, "-9223372036854775808 -9223372036854775808", 3, `println(-arg(3))
println(0 - arg(3))`) // 0 less the lowest one is that again
}

// P16.1: numbers, their sums, products and the rest, modulo 2^64.
func TestNumbers(t *testing.T) {
	prints(t, "7 1 12 -1 14 -12", 7, `println(1 + 2 * 3)
println(7 - 4 - 2)
println(3 * 4)
println(2 - 3)
println(2 * (3 + 4))
println(3 * -4)`)
	prints(t, "-9223372036854775808 9223372036854775807 -2 0 1 -9223372036854775808 0", 8, `println(arg(2) + 1)
println(arg(3) - 1)
println(arg(2) * 2)
println(arg(3) * 2)
println(arg(2) * arg(2))
println(arg(3) * arg(2))
println(arg(3) * arg(3))`)
	prints(t, "-1 0 -9223372036854775808 2305843009213693952 -9223372036854775807 2", 7, `println(arg(2) + arg(3))
println(arg(3) + arg(3))
println(arg(3) * -1)
println(arg(3) * 3 / -2 + arg(3) / 4)
println(arg(2) * -1)
println(arg(2) * -2)`)
}

// P16.1: quotients are cut towards 0, and what is left goes with them.
func TestQuotients(t *testing.T) {
	prints(t, "3 -3 -3 3 0 0 0 1", 9, `println(7 / 2)
println(-7 / 2)
println(7 / -2)
println(-7 / -2)
println(1 / 2)
println(-1 / 2)
println(0 / -5)
println(5 / 5)`)
	prints(t, "1 -1 1 -1 1 0 0 5", 9, `println(7 % 2)
println(-7 % 2)
println(7 % -2)
println(-7 % -2)
println(1 % 2)
println(-4 % 2)
println(0 % -5)
println(5 % 6)`)
	prints(t, "-9223372036854775808 0 1 -1 -9223372036854775808 0", 7, `println(arg(3) / -1)
println(arg(3) % -1)
println(arg(3) / arg(3))
println(arg(3) % arg(2))
println(arg(3) / 1)
println(arg(2) / arg(3))`)
	prints(t, "8 2 0 1", 5, `println(100 / 4 / 3)
println(100 / (4 * 10))
println(100 % 7 % 2)
println(100 % (7 % 4))`)
}

// P16.1: by 0 nothing is divided, whatever else there is.
func TestDivide(t *testing.T) {
	givesUp(t, "divide", "", 2, "println(1 / 0)")
	givesUp(t, "divide", "", 2, "println(0 / 0)")
	givesUp(t, "divide", "", 2, "println(1 % 0)")
	givesUp(t, "divide", "", 2, "println(-9223372036854775807 % (5 - 5))")
	givesUp(t, "divide", "", 2, "println(-9223372036854775807 / (5 - 5))")
	givesUp(t, "divide", "1", 3, "println(1)\nprintln(1 / arg(0))\nprintln(2)")
	givesUp(t, "divide", "1 2", 8, "println(f(1) / (f(2) - 2))", "func f(x int) int { println(x); return x }")
	givesUp(t, "divide", "", 2, "x := 1 / 0 + len(panics())", `func panics() string { panic("late"); return "" }`)
	givesUp(t, "early", "", 4, "x := len(panics()) / 0", `func panics() string { panic("early"); return "" }`)
}

// P16.1: && and || ask their second kid just where the first one does not tell.
func TestLogic(t *testing.T) {
	prints(t, "true false false false true true true false", 9, `println(true && true)
println(true && false)
println(false && true)
println(false && false)
println(true || true)
println(true || false)
println(false || true)
println(false || false)`)
	ahead := "func p(x bool) bool { println(x); return x }" // three steps a call
	prints(t, "true true true", 8, "println(p(true) && p(true))", ahead)
	prints(t, "true false false", 8, "println(p(true) && p(false))", ahead)
	prints(t, "false false", 5, "println(p(false) && p(true))", ahead)
	prints(t, "true true", 5, "println(p(true) || p(false))", ahead)
	prints(t, "false true true", 8, "println(p(false) || p(true))", ahead)
	prints(t, "false false false", 8, "println(p(false) || p(false))", ahead)
	prints(t, "false true", 3, "println(false && 1 / 0 == 0)\nprintln(true || 1 / 0 == 0)")
	givesUp(t, "divide", "", 2, "println(true && 1 / 0 == 0)")
	givesUp(t, "divide", "", 2, "println(false || 1 / 0 == 0)")
	givesUp(t, "divide", "", 2, "println(1 / 0 == 0 && false)")
	givesUp(t, "divide", "", 2, "println(1 / 0 == 0 || true)")
	prints(t, "true false", 3, "println(true || false && false)\nprintln((true || false) && false)")
}

// P16.1: == and != of each type that types lets them have; of structs: of what is in them, in structs within structs too.
func TestEqual(t *testing.T) {
	prints(t, "true false false true true false", 7, `println(1 == 1)
println(1 == 2)
println(1 != 1)
println(1 != 2)
println(arg(2) + 1 == arg(3))
println(arg(2) == arg(3))`)
	prints(t, "true true false false false false true true", 9, `println(true == true)
println(false == false)
println(true == false)
println(false == true)
println(true != true)
println(false != false)
println(true != false)
println(false != true)`)
	prints(t, "true true false false false true true false", 9, `println("" == "")
println("ab" == "a" + "b")
println("ab" == "a")
println("ab" == "aB")
println("" == "a")
println("" != "a")
println("ab" != "ac")
println("ab" != "ab")`)
	prints(t, "true true true false true true false false", 14, `var v u
var w u
w.o.n = 1
w.o.s = "a"
w.o.b = true
println(v.o.n == v.o.n)
println(v.o.n != w.o.n)
println(v.o.s != w.o.s)
println(v.o.b == w.o.b)
println(w.o.n == 1)
println(w.o.s == "a")
println(w.o.b != true)
println(w.o.s == v.o.s)`, "type t struct { n int; s string; b bool }", "type u struct { o t }")
}

// P16.1: < <= > >= of numbers.
func TestOrder(t *testing.T) {
	prints(t, "true false false true true false false false true false true true", 13, `println(1 < 2)
println(2 < 1)
println(1 < 1)
println(1 <= 2)
println(1 <= 1)
println(2 <= 1)
println(1 > 2)
println(1 > 1)
println(2 > 1)
println(1 >= 2)
println(1 >= 1)
println(2 >= 1)`)
	prints(t, "true true false false true false true", 8, `println(arg(3) < arg(2))
println(arg(1) < 0)
println(arg(1) > arg(0))
println(0 < arg(3))
println(10 > 9)
println(arg(3) - 1 < 0)
println(arg(3) - 1 >= arg(2))`)
}

// P16.1: < <= > >= of strings, byte by byte; the beginning of another one is below it.
func TestTextOrder(t *testing.T) {
	prints(t, "true false false true true true true false false true false true", 13, `println("a" < "b")
println("b" < "a")
println("a" < "a")
println("a" <= "a")
println("a" <= "b")
println("" < "a")
println("ab" < "abc")
println("abc" < "ab")
println("b" < "abc")
println("B" < "a")
println("a" > "a")
println("a" >= "a")`)
	prints(t, "true true false true true false true true false", 10, `println("10" < "9")
println("b" > "abc")
println("" > "a")
println("" <= "")
println("" >= "")
println("" < "")
println("\n" < " ")
println("~" > "z")
println("ab" >= "abc")`)
}

// P16.1: strings one behind the other, up to MaxString bytes.
func TestJoined(t *testing.T) {
	prints(t, "ab abc  a", 5, `println("a" + "b")
println("a" + "b" + "c")
println("" + "")
println("" + "a")`)
	half := `"` + strings.Repeat("x", api.MaxString/2) + `"`
	whole := strings.Repeat("x", api.MaxString)
	prints(t, "1024 1024", 4, "s := "+half+" + "+half+"\nprintln(len(s))\nprintln(len(s + \"\" + \"\"))")
	if r := ran(t, nil, "a/x.go", inMain("println("+half+" + "+half+")")); r.Out != whole+"\n" || r.End != api.EndDone {
		t.Errorf("MaxString bytes: %+v", r)
	}
	if r := ran(t, nil, "a/x.go", inMain(`println("`+whole+`")`)); r.Out != whole+"\n" || r.End != api.EndDone {
		t.Errorf("a text of MaxString bytes: %+v", r)
	}
	givesUp(t, "long", "", 2, "println(len("+half+" + "+half+` + "x"))`)
	givesUp(t, "long", "", 2, "println(len("+half+" + ("+half+` + "x")))`)
	givesUp(t, "long", "", 2, `println(len("`+whole+`" + "x"))`)
	givesUp(t, "long", "", 2, `println(len("x" + "`+whole+`"))`)
	givesUp(t, "long", "", 2, `println(len("`+whole+`" + `+half+"))")
}

// P16.1: a string that grows by several statements is held against MaxString each time.
func TestGrown(t *testing.T) {
	prints(t, "1024", 5+10*3, "s := \"x\"\nfor len(s) < 1024 { s = s + s }\nprintln(len(s))") // main, :=, for and println; 10 rounds of for, block and =; and for once more
	givesUp(t, "long", "1024", 5+10*3+1, "s := \"x\"\nfor len(s) < 1024 { s = s + s }\nprintln(len(s))\ns = s + \"y\"\nprintln(1)")
	givesUp(t, "long", "", 3+1025*3, "s := \"\"\nfor true { s = s + \"x\" }")
}

// P16.1: len is how many bytes a string has.
func TestLen(t *testing.T) {
	prints(t, "0 1 3 3 2", 6, `println(len(""))
println(len("a"))
println(len("a\nb"))
println(len("\"\\\n"))
println(len("a") + len("b"))`)
}

// P16.1: arg is the input of a number, or 0, if there is none.
func TestArg(t *testing.T) {
	p := mustRead(t, made("a/x.go", inMain(`println(arg(arg(0)))`)))
	for _, c := range []struct {
		args []int64
		out  string
	}{
		{nil, "0\n"},
		{[]int64{0}, "0\n"},
		{[]int64{1}, "0\n"},
		{[]int64{1, 5}, "5\n"},
		{[]int64{2, 5, -6}, "-6\n"},
		{[]int64{3, 5, -6}, "0\n"},
		{[]int64{-1, 5, -6}, "0\n"},
		{[]int64{math.MaxInt64, 5}, "0\n"},
		{[]int64{math.MinInt64, 5}, "0\n"},
		{[]int64{1 << 32, 5}, "0\n"},
		{[]int64{1<<32 + 1, 5}, "0\n"},
		{[]int64{1, math.MaxInt64}, "9223372036854775807\n"},
		{[]int64{1, math.MinInt64}, "-9223372036854775808\n"},
		{[]int64{7, 1, 2, 3, 4, 5, 6, 77}, "77\n"},
		{[]int64{8, 1, 2, 3, 4, 5, 6, 77}, "0\n"},
	} {
		if r, err := check(t, p, "a", c.args...); err != api.OK || r != (api.Ran{End: api.EndDone, Out: c.out, Steps: 2}) {
			t.Errorf("Run with %d: %+v, %d", c.args, r, err)
		}
	}
}
