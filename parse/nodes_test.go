package parse_test

import (
	"slices"
	"testing"

	"shipwright/api"
)

// row is a node whose fields are said by hand: what stands from From up to At, and from At up to To.
type row struct {
	kind        int
	text        string
	num         int64
	kids        []int
	ahead, tail string
}

// P11.1: each Kind of node with its Text, Num and kids, and its At, From and To, with brackets and without.
func TestNodes(t *testing.T) {
	seen := map[int]bool{}
	for _, q := range []struct {
		text string
		rows []row
	}{
		{"// c\npackage pack;\nimport \"im/port\"\nimport \"quo\\\"te\" // d\nconst con = 12\nconst neg = -34\nconst str = \"te\\n\"\nconst yes = true\n", []row{
			{api.NodeFile, "pack", 0, []int{1, 2, 3, 5, 8, 10}, "package ", "pack;\nimport \"im/port\"\nimport \"quo\\\"te\" // d\nconst con = 12\nconst neg = -34\nconst str = \"te\\n\"\nconst yes = true"},
			{api.NodeImport, "im/port", 0, nil, "import ", "\"im/port\""},
			{api.NodeImport, "quo\"te", 0, nil, "import ", "\"quo\\\"te\""},
			{api.NodeConst, "con", 0, []int{4}, "const ", "con = 12"},
			{api.NodeInt, "", 12, nil, "", "12"},
			{api.NodeConst, "neg", 0, []int{6}, "const ", "neg = -34"},
			{api.NodeUnary, "-", 0, []int{7}, "", "-34"},
			{api.NodeInt, "", 34, nil, "", "34"},
			{api.NodeConst, "str", 0, []int{9}, "const ", "str = \"te\\n\""},
			{api.NodeText, "te\n", 0, nil, "", "\"te\\n\""},
			{api.NodeConst, "yes", 0, []int{11}, "const ", "yes = true"},
			{api.NodeBool, "true", 0, nil, "", "true"},
		}},
		{"package p; var vint int; var vfar far.off = no; type empty struct {}; type some struct { one bool\n two near; }", []row{
			{api.NodeFile, "p", 0, []int{1, 3, 7, 8}, "package ", "p; var vint int; var vfar far.off = no; type empty struct {}; type some struct { one bool\n two near; }"},
			{api.NodeVar, "vint", 0, []int{2}, "var ", "vint int"},
			{api.NodeBasic, "int", 0, nil, "", "int"},
			{api.NodeVar, "vfar", 0, []int{4, 6}, "var ", "vfar far.off = no"},
			{api.NodeFar, "off", 0, []int{5}, "far.", "off"},
			{api.NodeName, "far", 0, nil, "", "far"},
			{api.NodeName, "no", 0, nil, "", "no"},
			{api.NodeStruct, "empty", 0, nil, "type ", "empty struct {}"},
			{api.NodeStruct, "some", 0, []int{9, 11}, "type ", "some struct { one bool\n two near; }"},
			{api.NodeField, "one", 0, []int{10}, "", "one bool"},
			{api.NodeBasic, "bool", 0, nil, "", "bool"},
			{api.NodeField, "two", 0, []int{12}, "", "two near"},
			{api.NodeNamed, "near", 0, nil, "", "near"},
		}},
		{"package p\nfunc (recv kind) meth(pone int, ptwo near) back.to { }\nfunc fun() { return }\n", []row{
			{api.NodeFile, "p", 0, []int{1, 11}, "package ", "p\nfunc (recv kind) meth(pone int, ptwo near) back.to { }\nfunc fun() { return }"},
			{api.NodeFunc, "meth", 0, []int{2, 4, 6, 8, 10}, "func (recv kind) ", "meth(pone int, ptwo near) back.to { }"},
			{api.NodeRecv, "recv", 0, []int{3}, "", "recv kind"},
			{api.NodeNamed, "kind", 0, nil, "", "kind"},
			{api.NodeParam, "pone", 0, []int{5}, "", "pone int"},
			{api.NodeBasic, "int", 0, nil, "", "int"},
			{api.NodeParam, "ptwo", 0, []int{7}, "", "ptwo near"},
			{api.NodeNamed, "near", 0, nil, "", "near"},
			{api.NodeFar, "to", 0, []int{9}, "back.", "to"},
			{api.NodeName, "back", 0, nil, "", "back"},
			{api.NodeBlock, "", 0, nil, "", "{ }"},
			{api.NodeFunc, "fun", 0, []int{12}, "func ", "fun() { return }"},
			{api.NodeBlock, "", 0, []int{13}, "", "{ return }"},
			{api.NodeReturn, "", 0, nil, "", "return"},
		}},
		{"package p; func f() { var loc string = 56; var bare int\n{ if cond { expr } else { } }; if one { } else if two { }\nfor again { return value } }", []row{
			{api.NodeFile, "p", 0, []int{1}, "package ", "p; func f() { var loc string = 56; var bare int\n{ if cond { expr } else { } }; if one { } else if two { }\nfor again { return value } }"},
			{api.NodeFunc, "f", 0, []int{2}, "func ", "f() { var loc string = 56; var bare int\n{ if cond { expr } else { } }; if one { } else if two { }\nfor again { return value } }"},
			{api.NodeBlock, "", 0, []int{3, 6, 8, 15, 21}, "", "{ var loc string = 56; var bare int\n{ if cond { expr } else { } }; if one { } else if two { }\nfor again { return value } }"},
			{api.NodeVar, "loc", 0, []int{4, 5}, "var ", "loc string = 56"},
			{api.NodeBasic, "string", 0, nil, "", "string"},
			{api.NodeInt, "", 56, nil, "", "56"},
			{api.NodeVar, "bare", 0, []int{7}, "var ", "bare int"},
			{api.NodeBasic, "int", 0, nil, "", "int"},
			{api.NodeBlock, "", 0, []int{9}, "", "{ if cond { expr } else { } }"},
			{api.NodeIf, "", 0, []int{10, 11, 14}, "", "if cond { expr } else { }"},
			{api.NodeName, "cond", 0, nil, "", "cond"},
			{api.NodeBlock, "", 0, []int{12}, "", "{ expr }"},
			{api.NodeExpr, "", 0, []int{13}, "", "expr"},
			{api.NodeName, "expr", 0, nil, "", "expr"},
			{api.NodeBlock, "", 0, nil, "", "{ }"},
			{api.NodeIf, "", 0, []int{16, 17, 18}, "", "if one { } else if two { }"},
			{api.NodeName, "one", 0, nil, "", "one"},
			{api.NodeBlock, "", 0, nil, "", "{ }"},
			{api.NodeIf, "", 0, []int{19, 20}, "", "if two { }"},
			{api.NodeName, "two", 0, nil, "", "two"},
			{api.NodeBlock, "", 0, nil, "", "{ }"},
			{api.NodeFor, "", 0, []int{22, 23}, "", "for again { return value }"},
			{api.NodeName, "again", 0, nil, "", "again"},
			{api.NodeBlock, "", 0, []int{24}, "", "{ return value }"},
			{api.NodeReturn, "", 0, []int{25}, "", "return value"},
			{api.NodeName, "value", 0, nil, "", "value"},
		}},
		{"package p; func f() { short := 78; to.it = from; call(); call2(arg.one, -arg2)(true).dot }", []row{
			{api.NodeFile, "p", 0, []int{1}, "package ", "p; func f() { short := 78; to.it = from; call(); call2(arg.one, -arg2)(true).dot }"},
			{api.NodeFunc, "f", 0, []int{2}, "func ", "f() { short := 78; to.it = from; call(); call2(arg.one, -arg2)(true).dot }"},
			{api.NodeBlock, "", 0, []int{3, 5, 9, 12}, "", "{ short := 78; to.it = from; call(); call2(arg.one, -arg2)(true).dot }"},
			{api.NodeShort, "short", 0, []int{4}, "", "short := 78"},
			{api.NodeInt, "", 78, nil, "", "78"},
			{api.NodeAssign, "", 0, []int{6, 8}, "", "to.it = from"},
			{api.NodeDot, "it", 0, []int{7}, "to.", "it"},
			{api.NodeName, "to", 0, nil, "", "to"},
			{api.NodeName, "from", 0, nil, "", "from"},
			{api.NodeExpr, "", 0, []int{10}, "", "call()"},
			{api.NodeCall, "", 0, []int{11}, "", "call()"},
			{api.NodeName, "call", 0, nil, "", "call"},
			{api.NodeExpr, "", 0, []int{13}, "", "call2(arg.one, -arg2)(true).dot"},
			{api.NodeDot, "dot", 0, []int{14}, "call2(arg.one, -arg2)(true).", "dot"},
			{api.NodeCall, "", 0, []int{15, 21}, "", "call2(arg.one, -arg2)(true)"},
			{api.NodeCall, "", 0, []int{16, 17, 19}, "", "call2(arg.one, -arg2)"},
			{api.NodeName, "call2", 0, nil, "", "call2"},
			{api.NodeDot, "one", 0, []int{18}, "arg.", "one"},
			{api.NodeName, "arg", 0, nil, "", "arg"},
			{api.NodeUnary, "-", 0, []int{20}, "", "-arg2"},
			{api.NodeName, "arg2", 0, nil, "", "arg2"},
			{api.NodeBool, "true", 0, nil, "", "true"},
		}},
		{"package p; func f() { (left) = ((right)); (expr); short := (one); return (two) }", []row{
			{api.NodeFile, "p", 0, []int{1}, "package ", "p; func f() { (left) = ((right)); (expr); short := (one); return (two) }"},
			{api.NodeFunc, "f", 0, []int{2}, "func ", "f() { (left) = ((right)); (expr); short := (one); return (two) }"},
			{api.NodeBlock, "", 0, []int{3, 6, 8, 10}, "", "{ (left) = ((right)); (expr); short := (one); return (two) }"},
			{api.NodeAssign, "", 0, []int{4, 5}, "", "(left) = ((right))"},
			{api.NodeName, "left", 0, nil, "", "left"},
			{api.NodeName, "right", 0, nil, "", "right"},
			{api.NodeExpr, "", 0, []int{7}, "", "(expr)"},
			{api.NodeName, "expr", 0, nil, "", "expr"},
			{api.NodeShort, "short", 0, []int{9}, "", "short := (one)"},
			{api.NodeName, "one", 0, nil, "", "one"},
			{api.NodeReturn, "", 0, []int{11}, "", "return (two)"},
			{api.NodeName, "two", 0, nil, "", "two"},
		}},
		{"package p; func f() { if (cond) { }; for ((again)) { } }", []row{
			{api.NodeFile, "p", 0, []int{1}, "package ", "p; func f() { if (cond) { }; for ((again)) { } }"},
			{api.NodeFunc, "f", 0, []int{2}, "func ", "f() { if (cond) { }; for ((again)) { } }"},
			{api.NodeBlock, "", 0, []int{3, 6}, "", "{ if (cond) { }; for ((again)) { } }"},
			{api.NodeIf, "", 0, []int{4, 5}, "", "if (cond) { }"},
			{api.NodeName, "cond", 0, nil, "", "cond"},
			{api.NodeBlock, "", 0, nil, "", "{ }"},
			{api.NodeFor, "", 0, []int{7, 8}, "", "for ((again)) { }"},
			{api.NodeName, "again", 0, nil, "", "again"},
			{api.NodeBlock, "", 0, nil, "", "{ }"},
		}},
		{"package p; var v int = ((one)) + (two) // c\n", []row{
			{api.NodeFile, "p", 0, []int{1}, "package ", "p; var v int = ((one)) + (two) // c"},
			{api.NodeVar, "v", 0, []int{2, 3}, "var ", "v int = ((one)) + (two)"},
			{api.NodeBasic, "int", 0, nil, "", "int"},
			{api.NodeBinary, "+", 0, []int{4, 5}, "((one)) ", "+ (two)"},
			{api.NodeName, "one", 0, nil, "", "one"},
			{api.NodeName, "two", 0, nil, "", "two"},
		}},
		{"package p; var v int = (one - (two)) * -(three)", []row{
			{api.NodeFile, "p", 0, []int{1}, "package ", "p; var v int = (one - (two)) * -(three)"},
			{api.NodeVar, "v", 0, []int{2, 3}, "var ", "v int = (one - (two)) * -(three)"},
			{api.NodeBasic, "int", 0, nil, "", "int"},
			{api.NodeBinary, "*", 0, []int{4, 7}, "(one - (two)) ", "* -(three)"},
			{api.NodeBinary, "-", 0, []int{5, 6}, "one ", "- (two)"},
			{api.NodeName, "one", 0, nil, "", "one"},
			{api.NodeName, "two", 0, nil, "", "two"},
			{api.NodeUnary, "-", 0, []int{8}, "", "-(three)"},
			{api.NodeName, "three", 0, nil, "", "three"},
		}},
		{"package p; var v int = ((one)).two((three), ((four)))(five)", []row{
			{api.NodeFile, "p", 0, []int{1}, "package ", "p; var v int = ((one)).two((three), ((four)))(five)"},
			{api.NodeVar, "v", 0, []int{2, 3}, "var ", "v int = ((one)).two((three), ((four)))(five)"},
			{api.NodeBasic, "int", 0, nil, "", "int"},
			{api.NodeCall, "", 0, []int{4, 9}, "", "((one)).two((three), ((four)))(five)"},
			{api.NodeCall, "", 0, []int{5, 7, 8}, "", "((one)).two((three), ((four)))"},
			{api.NodeDot, "two", 0, []int{6}, "((one)).", "two"},
			{api.NodeName, "one", 0, nil, "", "one"},
			{api.NodeName, "three", 0, nil, "", "three"},
			{api.NodeName, "four", 0, nil, "", "four"},
			{api.NodeName, "five", 0, nil, "", "five"},
		}},
		{"package p; var v int = (((one) + (two))).three", []row{
			{api.NodeFile, "p", 0, []int{1}, "package ", "p; var v int = (((one) + (two))).three"},
			{api.NodeVar, "v", 0, []int{2, 3}, "var ", "v int = (((one) + (two))).three"},
			{api.NodeBasic, "int", 0, nil, "", "int"},
			{api.NodeDot, "three", 0, []int{4}, "(((one) + (two))).", "three"},
			{api.NodeBinary, "+", 0, []int{5, 6}, "(one) ", "+ (two)"},
			{api.NodeName, "one", 0, nil, "", "one"},
			{api.NodeName, "two", 0, nil, "", "two"},
		}},
		{"package p; var v int = (-((one)))(two) || !(three)", []row{
			{api.NodeFile, "p", 0, []int{1}, "package ", "p; var v int = (-((one)))(two) || !(three)"},
			{api.NodeVar, "v", 0, []int{2, 3}, "var ", "v int = (-((one)))(two) || !(three)"},
			{api.NodeBasic, "int", 0, nil, "", "int"},
			{api.NodeBinary, "||", 0, []int{4, 8}, "(-((one)))(two) ", "|| !(three)"},
			{api.NodeCall, "", 0, []int{5, 7}, "", "(-((one)))(two)"},
			{api.NodeUnary, "-", 0, []int{6}, "", "-((one))"},
			{api.NodeName, "one", 0, nil, "", "one"},
			{api.NodeName, "two", 0, nil, "", "two"},
			{api.NodeUnary, "!", 0, []int{9}, "", "!(three)"},
			{api.NodeName, "three", 0, nil, "", "three"},
		}},
		{"package p; var v int = (one + two)", []row{
			{api.NodeFile, "p", 0, []int{1}, "package ", "p; var v int = (one + two)"},
			{api.NodeVar, "v", 0, []int{2, 3}, "var ", "v int = (one + two)"},
			{api.NodeBasic, "int", 0, nil, "", "int"},
			{api.NodeBinary, "+", 0, []int{4, 5}, "one ", "+ two"},
			{api.NodeName, "one", 0, nil, "", "one"},
			{api.NodeName, "two", 0, nil, "", "two"},
		}},
	} {
		x := takes(t, q.text)
		if len(x.Nodes) != len(q.rows) {
			t.Errorf("%q: %d nodes, want %d", q.text, len(x.Nodes), len(q.rows))
			continue
		}
		for i, n := range x.Nodes {
			seen[n.Kind] = true
			want := q.rows[i]
			if n.Kind != want.kind || n.Text != want.text || n.Num != want.num || !slices.Equal(n.Kids, want.kids) {
				t.Errorf("%q: node %d: %v, want %v", q.text, i, n, want)
			}
			if q.text[n.From:n.At] != want.ahead || q.text[n.At:n.To] != want.tail {
				t.Errorf("%q: node %d: %v stands at %q, %q, want %v", q.text, i, n, q.text[n.From:n.At], q.text[n.At:n.To], want)
			}
		}
	}
	if len(seen) != len(letters) {
		t.Errorf("Kinds: %v", seen)
	}
}

// P11.1: a file's place: its last token is an end, with Text or without.
func TestFilePlace(t *testing.T) {
	for s, want := range map[string][3]int{
		"package a":               {8, 0, 9},
		"package a\n":             {8, 0, 9},
		"package a;":              {8, 0, 10},
		"package a  ;  // c\n":    {8, 0, 12},
		"package a  // c\n\n":     {8, 0, 15},
		"package a   \n":          {8, 0, 12},
		" // c\n package\ta":      {15, 7, 16},
		"package a; var x int":    {8, 0, 20},
		"package a; var x int ; ": {8, 0, 22},
	} {
		x := takes(t, s)
		if n := x.Nodes[0]; n.At != want[0] || n.From != want[1] || n.To != want[2] {
			t.Errorf("%q: %v, want %v", s, n, want)
		}
	}
}
