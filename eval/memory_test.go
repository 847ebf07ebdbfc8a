package eval_test

import (
	"fmt"
	"slices"
	"testing"

	"shipwright/api"
	"shipwright/eval"
)

// rich is a repository whose runs do something of everything: main changes variables of files and structs, prints, and gives up by its input.
func rich() api.Repo {
	return made(
		"a/x.go", `package a
import "b"
const K = 3
var V b.T
var N int = K
func main() {
	V.N = V.N + arg(0)
	V.O.S = V.O.S + "x"
	N = N - 1
	for N > 0 { println(V.Get()); N = N - 1 }
	println(V.O.S)
	if arg(1) == 1 { main() }
	if arg(1) == 2 { panic(V.O.S) }
}`,
		"b/x.go", "package b\ntype T struct { N int; O U }\ntype U struct { S string }\nfunc (r T) Get() int { r.N = r.N + 1; return r.N }",
		"c/x.go", "package c\nfunc main() { println(\"c\") }")
}

// roomy is a list with something behind its end, which nobody may touch; all of it is put among the rooms.
func roomy[T any](rooms *[]func() string, list []T, behind T) []T {
	more := append(slices.Clone(list), behind, behind)
	*rooms = append(*rooms, func() string { return fmt.Sprintf("%#v", more) })
	return more[:len(list)]
}

// looked is what all rooms hold.
func looked(rooms []func() string) string {
	var s string
	for _, room := range rooms {
		s += room()
	}
	return s
}

// R3: no call changes anything of a program or of inputs, the room behind their lists neither.
func TestHanded(t *testing.T) {
	p := mustRead(t, rich())
	for _, args := range [][]int64{nil, {4}, {4, 1}, {4, 2}, make([]int64, api.MaxArgs), make([]int64, api.MaxArgs+1)} {
		for _, folder := range []string{"a", "b", "c"} {
			want, err := check(t, p, folder, args...)
			var rooms []func() string
			q := copiedProgram(p)
			q.Repo.Files = roomy(&rooms, q.Repo.Files, api.File{Path: "d/x.go", Text: "package d\nfunc main() { }"})
			for i := range q.Trees {
				x := &q.Trees[i]
				for j := range x.Nodes {
					x.Nodes[j].Kids = roomy(&rooms, x.Nodes[j].Kids, 1)
				}
				x.Nodes = roomy(&rooms, x.Nodes, x.Nodes[0])
			}
			q.Trees = roomy(&rooms, q.Trees, q.Trees[0])
			handed := roomy(&rooms, args, 9)
			before := looked(rooms)
			if r, no := eval.Run(q, folder, handed); r != want || no != err {
				t.Errorf("Run(%q, %d): %+v, %d, want %+v, %d", folder, args, r, no, want, err)
			}
			if list, no := eval.Mains(q); !slices.Equal(list, []string{"a", "c"}) || no != api.OK {
				t.Errorf("Mains: %q, %d", list, no)
			}
			if looked(rooms) != before {
				t.Errorf("Run(%q, %d) or Mains has changed what it was handed", folder, args)
			}
		}
	}
}

// R3, R5, P16.3: nothing is kept from call to call: a run that is done again is the same, whatever was run between, and however what was handed in or answered is changed behind that.
func TestAgain(t *testing.T) {
	p := mustRead(t, rich())
	first := map[string]api.Ran{}
	for round := range 20 {
		for _, args := range [][]int64{nil, {4}, {4, 1}, {4, 2}, {-1, 1}} {
			q, handed := copiedProgram(p), slices.Clone(args)
			r, err := eval.Run(q, "a", handed)
			key := fmt.Sprint(args)
			if round == 0 {
				first[key] = r
			}
			if r != first[key] || err != api.OK {
				t.Fatalf("Run with %d: %+v, %d, and at first %+v", args, r, err, first[key])
			}
			clear(handed)
			for i := range q.Trees {
				clear(q.Trees[i].Nodes)
			}
			clear(q.Trees)
			clear(q.Repo.Files)
			list, err := eval.Mains(p)
			if !slices.Equal(list, []string{"a", "c"}) || err != api.OK {
				t.Fatalf("Mains: %q, %d", list, err)
			}
			_ = append(list, "x", "x")
			clear(list)
		}
	}
	if first["[4 2]"] != (api.Ran{End: api.EndPanic, Why: "x", Out: "5\n5\nx\n", Steps: 25}) {
		t.Errorf("Run with 4 2: %+v", first["[4 2]"])
	}
	if r := first["[4 1]"]; r.End != api.EndPanic && r.End != api.EndOut && r.End != api.EndSteps {
		t.Errorf("Run with 4 1: %+v", r)
	}
}
