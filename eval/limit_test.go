package eval_test

import (
	"fmt"
	"strings"
	"testing"

	"shipwright/api"
)

// ends holds the run of a main of these statements against how it ends, why, and its steps; it answers what was printed.
func ends(t *testing.T, end int, why string, steps int, body string, ahead ...string) string {
	t.Helper()
	r := ran(t, nil, "a/x.go", inMain(body, ahead...))
	if r.End != end || r.Steps != steps || r.Why != why {
		t.Errorf("%s\n%s\n%+v, want End %d, Why %q, Steps %d", strings.Join(ahead, "\n"), body, r, end, why, steps)
	}
	return r.Out
}

// left are statements of a main that take all steps but n, which is a multiple of 3: main, var, = and for take one each, a round three, and for takes one behind the last round.
func left(n int) string {
	return fmt.Sprintf("var i int\ni = 0\nfor i < %d { i = i + 1 }\n", (api.MaxSteps-n-5)/3)
}

// P16.1: a run of MaxSteps steps is done; with one more statement it is not.
func TestStepsOfStatements(t *testing.T) {
	const most = api.MaxSteps
	for n := 0; n < 10; n += 3 {
		ends(t, api.EndDone, "", most-n, left(n))
		ends(t, api.EndDone, "", most, left(n)+strings.Repeat("{ }\n", n))
		ends(t, api.EndSteps, "", most, left(n)+strings.Repeat("{ }\n", n+1))
	}
	for _, last := range []string{"println(1)", "x := 1 / 0", "var x int", "var x int = 1 / 0", "i = 1 / 0", "return", "if 1 / 0 == 0 { }", "for true { }", `panic("x")`, "{ println(1) }", "f()", "println(g())"} {
		if out := ends(t, api.EndSteps, "", most, left(3)+"{ }\n{ }\n{ }\n"+last, "func f() { println(2) }", "func g() int { return 1 / 0 }"); out != "" {
			t.Errorf("%s: %q", last, out)
		}
	}
	for _, last := range []string{"return", "x := 1", "var x int", "i = 1", "len(\"a\")", "{ }", "if false { }"} {
		ends(t, api.EndDone, "", most, left(3)+"{ }\n{ }\n"+last)
	}
	if out := ends(t, api.EndDone, "", most, left(3)+"{ }\n{ }\nprintln(1)"); out != "1\n" {
		t.Errorf("printed by the last step: %q", out)
	}
	if out := ends(t, api.EndSteps, "", most, "println(1)\nfor true { }\nprintln(2)"); out != "1\n" {
		t.Errorf("printed ahead of EndSteps: %q", out)
	}
}

// P16.1: what is done by the last statement's step may still give up; what takes one more does not.
func TestStepsWithin(t *testing.T) {
	const most = api.MaxSteps
	ahead := []string{"func f(x int) int { return 1 / x }", "func g() { }", "func (r t) m(x int) { }", "type t struct { }", "var V t"}
	for _, c := range []struct {
		last, why string
		end       int
	}{
		{"x := 1 / 0", "divide", api.EndPanic}, // the statement's step is the last one
		{"if 1 / 0 == 0 { }", "divide", api.EndPanic},
		{`panic("x")`, "x", api.EndPanic},
		{"f(1 / 0)", "divide", api.EndPanic}, // what is handed on comes ahead of the call's step
		{"V.m(1 / 0)", "divide", api.EndPanic},
		{"f(0)", "", api.EndSteps},
		{"g()", "", api.EndSteps},
		{"V.m(1)", "", api.EndSteps},
		{"x := f(0)", "", api.EndSteps},
		{"if f(0) == 0 { }", "", api.EndSteps},
		{"for 1 / 0 == 0 { }", "", api.EndSteps}, // the for's own step comes ahead of its condition
		{"for false { }", "", api.EndSteps},
		{"if true { }", "", api.EndSteps}, // the block's
		{"if false { } else { }", "", api.EndSteps},
		{"if false { } else if false { }", "", api.EndSteps},
		{"{ { } }", "", api.EndSteps},
	} {
		ends(t, c.end, c.why, most, left(3)+"{ }\n{ }\n"+c.last, ahead...)
	}
	ends(t, api.EndPanic, "divide", most, left(3)+"{ }\nfor 1 / 0 == 0 { }")
	ends(t, api.EndDone, "", most, left(3)+"{ }\nfor false { }")
	ends(t, api.EndDone, "", most, left(3)+"{ }\ng()", ahead...)
	ends(t, api.EndDone, "", most, left(3)+"f(1)", ahead...)
	ends(t, api.EndPanic, "divide", most, left(3)+"f(0)", ahead...)
	ends(t, api.EndDone, "", most, left(3)+"{ }\nif true { }")
}

// P16.1: a loop without end has as many rounds as there are steps.
func TestStepsOfLoops(t *testing.T) {
	const most = api.MaxSteps
	ends(t, api.EndSteps, "", most, "for true { }")
	// main and for take a step each, a round 6: the for's own, the block's, the statement's, the call's, that of =, that of if; 19998 = 6 * 3333
	for n, want := range map[int]string{3332: "3332\n", 3333: ""} {
		f := fmt.Sprintf("func f() { N = N + 1; if N == %d { println(N) } }", n)
		if out := ends(t, api.EndSteps, "", most, "for true { f() }", "var N int", f); out != want {
			t.Errorf("round %d: %q", n, out)
		}
	}
}

// P16.1: calls stand in one another as deep as the steps let them, main's among them.
func TestStepsOfCalls(t *testing.T) {
	const most = api.MaxSteps
	ends(t, api.EndSteps, "", most, "main()") // each main takes a step, and each statement one
	ends(t, api.EndSteps, "", most, "f()", "func f() { f() }")
	ends(t, api.EndSteps, "", most, "x := f(1)", "func f(x int) int { return f(x) + 1 }")
	minus := "func f() int { return " + strings.Repeat("- ", 18) + "f() }"
	ends(t, api.EndSteps, "", most, "x := f()", minus)
	calls := "func f(n int) int { return " + strings.Repeat("g(", 17) + "f(n)" + strings.Repeat(")", 17) + " }"
	ends(t, api.EndSteps, "", most, "x := f(1)", calls, "func g(x int) int { return x }")
	// main, println and call take 3 steps; a call in another one the if's, the return's and its own; the innermost one if, block, return
	const deep = (most - 3 - 3) / 3
	f := "func f(n int) int { if n == 0 { return 0 }; return f(n - 1) + 1 }"
	if out := ends(t, api.EndDone, "", 6+3*deep, fmt.Sprintf("println(f(%d))", deep), f); out != fmt.Sprintln(deep) {
		t.Errorf("%d calls in one another: %q", deep, out)
	}
	if out := ends(t, api.EndSteps, "", most, fmt.Sprintf("println(f(%d))", deep+1), f); out != "" {
		t.Errorf("%d calls in one another: %q", deep+1, out)
	}
}

// P16.1: MaxOut bytes are printed, and not one more.
func TestMaxOut(t *testing.T) {
	line := func(n int) string { return `println("` + strings.Repeat("x", n-1) + "\")\n" } // n bytes with the line feed
	half := api.MaxOut / 2
	long := strings.Repeat("x", half-1) + "\n"
	for _, c := range []struct {
		body, out  string
		end, steps int
	}{
		{line(half) + line(half), long + long, api.EndDone, 3},
		{line(half) + line(half) + "println(\"\")", long + long, api.EndOut, 4},
		{line(half) + line(half-1) + "println(\"\")", long + long[1:] + "\n", api.EndDone, 4},
		{line(half) + line(half-1) + "println(1)", long + long[1:], api.EndOut, 4},
		{line(half) + line(half-2) + "println(1)", long + long[2:] + "1\n", api.EndDone, 4},
		{line(half) + line(half-2) + "println(-1)", long + long[2:], api.EndOut, 4},
		{line(half) + line(half-5) + "println(true)", long + long[5:] + "true\n", api.EndDone, 4},
		{line(half) + line(half-5) + "println(false)", long + long[5:], api.EndOut, 4},
		{line(half) + line(half+1) + "println(1)", long, api.EndOut, 3}, // nothing is printed behind that, even if it would fit
		{line(1) + line(half+1) + line(half) + "println(1)", "\nx" + long, api.EndOut, 4},
		{line(half+1) + line(half-1), "x" + long + long[1:], api.EndDone, 3},
		{line(half+1) + line(half) + "println(1)", "x" + long, api.EndOut, 3},
	} {
		if r := ran(t, nil, "a/x.go", inMain(c.body)); r != (api.Ran{End: c.end, Out: c.out, Steps: c.steps}) {
			t.Errorf("%s\n%+v, want End %d, Steps %d, %d bytes", c.body, r, c.end, c.steps, len(c.out))
		}
	}
}

// P16.1: many lines fill MaxOut; what gives up, or takes too many steps, ahead of that keeps its own end.
func TestFilled(t *testing.T) {
	full := strings.Repeat("1234567\n", api.MaxOut/8)
	for _, c := range []struct {
		body, out, why string
		end, steps     int
	}{
		{"for true { println(1234567) }", full, "", api.EndOut, 2 + 257*3},
		{"i := 0\nfor i < 256 { println(1234567); i = i + 1 }", full, "", api.EndDone, 3 + 256*4 + 1},
		{"i := 0\nfor i < 257 { println(1234567); i = i + 1 }", full, "", api.EndOut, 3 + 256*4 + 3},
		{"i := 0\nfor i < 256 { println(1234567); i = i + 1 }\npanic(\"full\")", full, "full", api.EndPanic, 3 + 256*4 + 2},
		{"i := 0\nfor i < 256 { println(1234567); i = i + 1 }\nprintln(1 / 0)", full, "divide", api.EndPanic, 3 + 256*4 + 2},
		{"i := 0\nfor i < 256 { println(1234567); i = i + 1 }\nfor true { }", full, "", api.EndSteps, api.MaxSteps},
	} {
		if r := ran(t, nil, "a/x.go", inMain(c.body)); r != (api.Ran{End: c.end, Out: c.out, Why: c.why, Steps: c.steps}) {
			t.Errorf("%s\n%+v, want End %d, Steps %d, %d bytes", c.body, r, c.end, c.steps, len(c.out))
		}
	}
}

// P16.1: the greatest structs, changed in each of as many rounds as there are steps, do not hold a run up.
func TestGreatStructs(t *testing.T) {
	fields := func(n int, typ string) string {
		var list []string
		for i := range n {
			list = append(list, fmt.Sprintf("f%d %s", i, typ))
		}
		return "struct { " + strings.Join(list, "; ") + " }"
	}
	// 16 and 15 times 16 parts: MaxParts
	ends(t, api.EndSteps, "", api.MaxSteps, "var v t\nfor true { v.f0.f0 = v.f14.f14 + 1; w := v; w.f1 = v.f0; v = f(w) }", "type t "+fields(15, "u")+"\ntype u "+fields(16, "int"), "func f(x t) t { var v t; v = x; return v }")
}
