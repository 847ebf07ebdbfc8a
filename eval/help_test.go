package eval_test

import (
	"math"
	"reflect"
	"slices"
	"strings"
	"testing"

	"shipwright/api"
	"shipwright/eval"
	"shipwright/scope"
)

// made is a repository of paths and texts by turns.
func made(parts ...string) api.Repo {
	var r api.Repo
	for i := 0; i+1 < len(parts); i += 2 {
		r.Files = append(r.Files, api.File{Path: parts[i], Text: parts[i+1]})
	}
	return r
}

// mustRead is the program of a repository.
func mustRead(t *testing.T, r api.Repo) api.Program {
	t.Helper()
	p, e := scope.Read(r)
	if e != (api.Place{}) {
		t.Fatalf("Read(%q): %v", r.Files, e)
	}
	return p
}

// copiedProgram is a program that shares no list with p.
func copiedProgram(p api.Program) api.Program {
	q := api.Program{Repo: api.Repo{Files: slices.Clone(p.Repo.Files)}, Trees: slices.Clone(p.Trees)}
	for i := range q.Trees {
		q.Trees[i].Nodes = slices.Clone(q.Trees[i].Nodes)
		for j := range q.Trees[i].Nodes {
			q.Trees[i].Nodes[j].Kids = slices.Clone(q.Trees[i].Nodes[j].Kids)
		}
	}
	return q
}

// samePrograms holds programs against each other, nil and empty lists being one.
func samePrograms(a, b api.Program) bool {
	sameNodes := func(m, n api.Node) bool {
		kids := slices.Equal(m.Kids, n.Kids)
		m.Kids, n.Kids = nil, nil
		return kids && reflect.DeepEqual(m, n)
	}
	sameTrees := func(x, y api.Tree) bool { return slices.EqualFunc(x.Nodes, y.Nodes, sameNodes) }
	return slices.Equal(a.Repo.Files, b.Repo.Files) && slices.EqualFunc(a.Trees, b.Trees, sameTrees)
}

// check holds Run of a program against what it has to tell, and what follows of it (P16.3, R3).
func check(t *testing.T, p api.Program, folder string, args ...int64) (api.Ran, api.Errno) {
	t.Helper()
	before, handed := copiedProgram(p), slices.Clone(args)
	ran, err := eval.Run(p, folder, args)
	want, none := wantRun(p, folder, args)
	if ran != want || err != none {
		t.Fatalf("Run(%q, %q, %d): %+v, %d, want %+v, %d", p.Repo.Files, folder, args, ran, err, want, none)
	}
	if !samePrograms(p, before) || !slices.Equal(args, handed) {
		t.Fatalf("Run(%q, %q, %d) has changed what it was handed", p.Repo.Files, folder, args)
	}
	if err == api.OK {
		follows(t, p, folder, args, ran)
	}
	return ran, err
}

// follows is P16.3 of a run: done again it is the same, and alike; it has whole lines, no more than the limits say, and a Why just where it gave up; and its steps are at least main's.
func follows(t *testing.T, p api.Program, folder string, args []int64, ran api.Ran) {
	t.Helper()
	again, err := eval.Run(p, folder, args)
	if again != ran || err != api.OK || !eval.Alike(again, ran) {
		t.Fatalf("Run(%q, %q, %d): %+v, and then %+v, %d", p.Repo.Files, folder, args, ran, again, err)
	}
	if ran.Out != "" && !strings.HasSuffix(ran.Out, "\n") || len(ran.Out) > api.MaxOut || ran.Steps < 1 || ran.Steps > api.MaxSteps {
		t.Fatalf("Run(%q, %q, %d): %+v", p.Repo.Files, folder, args, ran)
	}
	if ran.End < api.EndDone || ran.End > api.EndOut || ran.Why != "" && ran.End != api.EndPanic || ran.End == api.EndSteps && ran.Steps != api.MaxSteps {
		t.Fatalf("Run(%q, %q, %d): %+v", p.Repo.Files, folder, args, ran)
	}
}

// ran is the run of paths and texts; it is the first file's package that is run.
func ran(t *testing.T, args []int64, parts ...string) api.Ran {
	t.Helper()
	p := mustRead(t, made(parts...))
	folder, _ := scope.Folder(parts[0])
	r, err := check(t, p, folder, args...)
	if err != api.OK {
		t.Fatalf("Run(%q, %q, %d): %d", p.Repo.Files, folder, args, err)
	}
	return r
}

// inMain is a file of a main of these statements, other declarations standing ahead of it.
func inMain(body string, ahead ...string) string {
	return "package a\n" + strings.Join(ahead, "\n") + "\nfunc main() {\n" + body + "\n}\n"
}

// prints holds the run of a main of these statements against lines, said with blanks between, and steps; it has to be done.
func prints(t *testing.T, lines string, steps int, body string, ahead ...string) {
	t.Helper()
	want := api.Ran{End: api.EndDone, Out: strings.ReplaceAll(lines+" ", " ", "\n"), Steps: steps}
	if lines == "" {
		want.Out = ""
	}
	if r := ran(t, []int64{7, -3, math.MaxInt64, math.MinInt64}, "a/x.go", inMain(body, ahead...)); r != want {
		t.Errorf("%s\n%s\n%+v, want %+v", strings.Join(ahead, "\n"), body, r, want)
	}
}

// givesUp holds the run of a main of these statements against how it gives up, and the lines that are printed ahead of that.
func givesUp(t *testing.T, why, lines string, steps int, body string, ahead ...string) {
	t.Helper()
	want := api.Ran{End: api.EndPanic, Why: why, Out: strings.ReplaceAll(lines+" ", " ", "\n"), Steps: steps}
	if lines == "" {
		want.Out = ""
	}
	if r := ran(t, nil, "a/x.go", inMain(body, ahead...)); r != want {
		t.Errorf("%s\n%s\n%+v, want %+v", strings.Join(ahead, "\n"), body, r, want)
	}
}

// refused holds Run against an error.
func refused(t *testing.T, want api.Errno, p api.Program, folder string, args ...int64) {
	t.Helper()
	if r, err := check(t, p, folder, args...); r != (api.Ran{}) || err != want {
		t.Errorf("Run(%q, %q, %d): %+v, %d, want %d", p.Repo.Files, folder, args, r, err, want)
	}
}
