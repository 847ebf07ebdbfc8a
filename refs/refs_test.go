package refs_test

import (
	"bytes"
	"fmt"
	"math/rand"
	"slices"
	"strings"
	"testing"

	"shipwright/api"
	"shipwright/refs"
	"shipwright/tree"
)

// row is an object with the Id that begins with that byte: which Id an object has is what the heap says.
func row(n byte, o api.Object) api.Held { return api.Held{Id: id(n), Object: o} }

// file and sub are entries of a folder.
func file(name string, n byte) api.Entry { return api.Entry{Name: name, Id: id(n)} }

func sub(name string, n byte) api.Entry { return api.Entry{Name: name, Folder: true, Id: id(n)} }

// The Ids of what on has in each heap.
const (
	good   = 1 + iota // a folder with a file
	text              // the file
	empty             // a folder without entries
	noTree            // a folder whose file is missing
	noFile            // a folder whose file is a folder
	noRepo            // a folder with one that is empty
	longer            // what may be no commit
	gone              // this one is in no heap
)

// on is a heap of folders that are right and wrong, and these.
func on(rows ...api.Held) api.Heap {
	note := commit(id(good), 0)
	note.Note = strings.Repeat("n", 201)
	return api.Heap{List: slices.Concat([]api.Held{
		row(good, folder(file("a", text))),
		row(text, blob("x")),
		row(empty, folder()),
		row(noTree, folder(file("a", text), file("b", gone))),
		row(noFile, folder(file("a", text), file("b", empty))),
		row(noRepo, folder(file("a", text), sub("b", empty))),
		row(longer, note),
	}, rows)}
}

// check holds all that is asked of a commit, and whether each of the others is in its history, against what has to be answered.
func check(t *testing.T, what string, h api.Heap, c api.Id, others ...api.Id) {
	t.Helper()
	all := firsts(h)
	if got, want := refs.Sound(h, c), wantSound(all, c); got != want {
		t.Fatalf("%s: Sound of %d: error %d, want %d", what, c[0], got, want)
	}
	list, err := refs.Line(h, c)
	if want, wantErr := wantLine(all, c); err != wantErr || !slices.Equal(list, want) {
		t.Fatalf("%s: Line of %d: %v, error %d, want %v, %d", what, c[0], list, err, want, wantErr)
	}
	r, err := refs.Repo(h, c)
	if want, wantErr := wantRepo(all, c); err != wantErr || !tree.Same(r, want) {
		t.Fatalf("%s: Repo of %d: %v, error %d, want %v, %d", what, c[0], r, err, want, wantErr)
	}
	for _, old := range append(others, c, api.Id{}, id(gone), id(good)) {
		is, err := refs.Above(h, old, c)
		if want, wantErr := wantAbove(all, old, c); err != wantErr || is != want {
			t.Fatalf("%s: Above of %d and %d: %v, error %d, want %v, %d", what, old[0], c[0], is, err, want, wantErr)
		}
	}
}

// P9.2, P9.5: the chapter's examples.
func TestExamples(t *testing.T) {
	main, err := refs.Apply(api.Refs{}, api.Move{Name: "main", To: id(1)})
	if err != api.OK || !slices.Equal(main.List, []api.Ref{{Name: "main", Id: id(1)}}) {
		t.Errorf("Apply: %v, error %d", main, err)
	}
	for _, c := range []struct {
		r    api.Refs
		m    api.Move
		want api.Errno
	}{
		{main, api.Move{Name: "main", To: id(1)}, api.ErrThere},
		{main, api.Move{Name: "main", From: id(2), To: id(3)}, api.ErrMoved},
		{main, api.Move{Name: "main", From: id(1)}, api.OK},
		{api.Refs{}, api.Move{Name: "main", From: id(1), To: id(2)}, api.ErrNone},
		{api.Refs{}, api.Move{Name: "a/b", To: id(1)}, api.ErrRefs},
		{api.Refs{}, api.Move{Name: "main"}, api.ErrRefs},
	} {
		if r, err := refs.Apply(c.r, c.m); err != c.want || len(r.List) != 0 {
			t.Errorf("Apply(%v, %v): %v, error %d", c.r, c.m, r, err)
		}
	}
	list, c, err := refs.Commit(api.Heap{}, api.Repo{}, nil, "")
	if err != api.OK || len(list) != 2 {
		t.Errorf("Commit: %v, error %d", list, err)
	}
	if line, err := refs.Line(api.Heap{List: list}, c); err != api.OK || !slices.Equal(line, []api.Id{c}) {
		t.Errorf("Line: %v, error %d", line, err)
	}
}

// P9.3: Sound and Repo of one commit without parents, and P9.4: Line and Above tell Sound's error.
func TestAlone(t *testing.T) {
	c := commit(id(good), 0)
	note, longNote, kindless, bytesToo, entriesToo, three := c, c, c, c, c, c
	note.Note = strings.Repeat("n", 200)
	longNote.Note = strings.Repeat("n", 201)
	kindless.Kind = 4
	bytesToo.Bytes = []byte("x")
	entriesToo.Entries = []api.Entry{file("a", text)}
	three.Parents = []api.Id{id(10), id(10), id(10)}
	four := []api.Held{row(40, folder(sub("a", 41))), row(41, folder(sub("b", 42))), row(42, folder(sub("c", 43))), row(43, folder(file("d", text)))}
	five := []api.Held{row(40, folder(sub("a", 41))), row(41, folder(sub("b", 42))), row(42, folder(sub("c", 43))), row(43, folder(sub("d", 44))), row(44, folder(file("e", text)))}
	list := func(n int, of byte) api.Object {
		o := folder()
		for i := range n {
			o.Entries = append(o.Entries, file(fmt.Sprintf("f%02d", i), of))
		}
		return o
	}
	big := row(41, blob(strings.Repeat("t", 4096)))
	at := func(o api.Object, rows ...api.Held) api.Heap {
		return on(append(rows, row(10, o))...)
	}
	for _, x := range []struct {
		what        string
		h           api.Heap
		sound, repo api.Errno
	}{
		{"an empty heap", api.Heap{}, api.ErrNone, api.ErrNone},
		{"an empty list", api.Heap{List: []api.Held{}}, api.ErrNone, api.ErrNone},
		{"a commit", at(c), api.OK, api.OK},
		{"a commit of nothing", at(commit(id(empty), 0)), api.OK, api.OK},
		{"empty lists", at(api.Object{Kind: api.ObjCommit, Tree: id(good), Bytes: []byte{}, Entries: []api.Entry{}, Parents: []api.Id{}}), api.OK, api.OK},
		{"a note of MaxNote bytes", at(note), api.OK, api.OK},
		{"a note of one byte more", at(longNote), api.ErrObject, api.ErrObject},
		{"missing", on(), api.ErrNone, api.ErrNone},
		{"a file", at(blob("x")), api.ErrObject, api.ErrObject},
		{"a folder", at(folder(file("a", text))), api.ErrObject, api.ErrObject},
		{"an empty folder", at(folder()), api.ErrObject, api.ErrObject},
		{"nothing", at(api.Object{}), api.ErrObject, api.ErrObject},
		{"of no kind", at(kindless), api.ErrObject, api.ErrObject},
		{"with bytes", at(bytesToo), api.ErrObject, api.ErrObject},
		{"with entries", at(entriesToo), api.ErrObject, api.ErrObject},
		{"with three parents", at(three), api.ErrObject, api.ErrObject},
		{"Number 1, and no parents", at(commit(id(good), 1)), api.ErrObject, api.OK},
		{"the greatest Number, and no parents", at(commit(id(good), 1<<32-1)), api.ErrObject, api.OK},
		{"its own parent", at(commit(id(good), 0, id(10))), api.ErrObject, api.OK},
		{"its own parent, Number 1", at(commit(id(good), 1, id(10))), api.ErrObject, api.OK},
		{"its own folder", at(commit(id(10), 0)), api.ErrObject, api.ErrObject},
		{"no folder named", at(commit(api.Id{}, 0)), api.ErrNone, api.ErrNone},
		{"a folder of noughts", at(commit(api.Id{}, 0), row(0, folder())), api.OK, api.OK},
		{"the folder is missing", at(commit(id(gone), 0)), api.ErrNone, api.ErrNone},
		{"the folder is a file", at(commit(id(text), 0)), api.ErrObject, api.ErrObject},
		{"the folder is a commit", at(commit(id(11), 0), row(11, c)), api.ErrObject, api.ErrObject},
		{"the folder may not be", at(commit(id(40), 0), row(40, folder(file("b", text), file("a", text)))), api.ErrObject, api.ErrObject},
		{"the folder has a name that may not be", at(commit(id(40), 0), row(40, folder(file("a b", text)))), api.ErrObject, api.ErrObject},
		{"a file is missing", at(commit(id(noTree), 0)), api.ErrNone, api.ErrNone},
		{"a file is a folder", at(commit(id(noFile), 0)), api.ErrObject, api.ErrObject},
		{"a file is a commit", at(commit(id(40), 0), row(40, folder(file("a", 10)))), api.ErrObject, api.ErrObject},
		{"a folder in it is a file", at(commit(id(40), 0), row(40, folder(sub("a", text)))), api.ErrObject, api.ErrObject},
		{"a folder in it is a commit", at(commit(id(40), 0), row(40, folder(sub("a", 10)))), api.ErrObject, api.ErrObject},
		{"a file is too long", at(commit(id(40), 0), row(40, folder(file("a", 41))), row(41, blob(strings.Repeat("t", 4097)))), api.ErrObject, api.ErrObject},
		{"a folder in it is empty", at(commit(id(noRepo), 0)), api.ErrRepo, api.ErrRepo},
		{"a folder in itself", at(commit(id(40), 0), row(40, folder(sub("a", 40)))), api.ErrRepo, api.ErrRepo},
		{"four folders in one another", at(commit(id(40), 0), four...), api.OK, api.OK},
		{"five folders in one another", at(commit(id(40), 0), five...), api.ErrRepo, api.ErrRepo},
		{"MaxFiles", at(commit(id(40), 0), row(40, list(16, text))), api.OK, api.OK},
		{"one more than MaxFiles", at(commit(id(40), 0), row(40, list(17, text))), api.ErrRepo, api.ErrRepo},
		{"MaxSource bytes", at(commit(id(40), 0), row(40, list(4, 41)), big), api.OK, api.OK},
		{"more than MaxSource bytes", at(commit(id(40), 0), row(40, list(5, 41)), big), api.ErrRepo, api.ErrRepo},
		{"missing ahead of wrong", at(commit(id(40), 0), row(40, folder(file("a", gone), file("b", empty)))), api.ErrNone, api.ErrNone},
		{"wrong ahead of missing", at(commit(id(40), 0), row(40, folder(file("a", empty), file("b", gone)))), api.ErrObject, api.ErrObject},
	} {
		if err := refs.Sound(x.h, id(10)); err != x.sound {
			t.Errorf("%s: Sound: error %d, want %d", x.what, err, x.sound)
		}
		if r, err := refs.Repo(x.h, id(10)); err != x.repo || err != api.OK && r.Files != nil {
			t.Errorf("%s: Repo: %v, error %d, want %d", x.what, r, err, x.repo)
		}
		check(t, x.what, x.h, id(10))
		slices.Reverse(x.h.List)
		check(t, x.what+", the other way round", x.h, id(10))
	}
}

// P9.3: Sound of a commit with one and two parents, written out.
func TestParents(t *testing.T) {
	first := commit(id(good), 0)
	p, q := row(20, first), row(21, commit(id(empty), 0))
	r := row(22, commit(id(good), 1, id(20)))
	for _, x := range []struct {
		what string
		h    api.Heap
		want api.Errno
	}{
		{"one", on(row(10, commit(id(good), 1, id(20))), p), api.OK},
		{"two", on(row(10, commit(id(good), 1, id(20), id(21))), p, q), api.OK},
		{"one twice", on(row(10, commit(id(good), 1, id(20), id(20))), p), api.OK},
		{"one and its parent", on(row(10, commit(id(good), 2, id(22), id(20))), p, r), api.OK},
		{"one and its child", on(row(10, commit(id(good), 2, id(20), id(22))), p, r), api.OK},
		{"three", on(row(10, commit(id(good), 1, id(20), id(21), id(20))), p, q), api.ErrObject},
		{"the only one is missing", on(row(10, commit(id(good), 1, id(20)))), api.ErrNone},
		{"the first one is missing", on(row(10, commit(id(good), 1, id(20), id(21))), q), api.ErrNone},
		{"the second one is missing", on(row(10, commit(id(good), 1, id(20), id(21))), p), api.ErrNone},
		{"the first one is a folder", on(row(10, commit(id(good), 1, id(good), id(21))), q), api.ErrObject},
		{"the second one is a file", on(row(10, commit(id(good), 1, id(20), id(text))), p), api.ErrObject},
		{"the first one may not be", on(row(10, commit(id(good), 1, id(longer), id(21))), q), api.ErrObject},
		{"the second one may not be", on(row(10, commit(id(good), 1, id(20), id(longer))), p), api.ErrObject},
		{"the first one's Number is the commit's", on(row(10, commit(id(good), 1, id(22), id(20))), p, r), api.ErrObject},
		{"the second one's Number is the commit's", on(row(10, commit(id(good), 1, id(20), id(22))), p, r), api.ErrObject},
		{"the only one's Number is the commit's", on(row(10, commit(id(good), 1, id(22))), p, r), api.ErrObject},
		{"the only one's Number is greater", on(row(10, commit(id(good), 0, id(22))), p, r), api.ErrObject},
		{"Number one too great", on(row(10, commit(id(good), 2, id(20))), p), api.ErrObject},
		{"Number one too great, of two", on(row(10, commit(id(good), 3, id(22), id(20))), p, r), api.ErrObject},
		{"Number far too great", on(row(10, commit(id(good), 1<<32-1, id(20))), p), api.ErrObject},
		{"a parent's Number is the greatest, the commit's 0", on(row(10, commit(id(good), 0, id(20))), row(20, commit(id(good), 1<<32-1))), api.ErrObject},
		{"a missing one ahead of a wrong one", on(row(10, commit(id(good), 1, id(gone), id(text)))), api.ErrNone},
		{"a wrong one ahead of a missing one", on(row(10, commit(id(good), 1, id(text), id(gone)))), api.ErrObject},
		{"a Number that is not below ahead of a missing one", on(row(10, commit(id(good), 1, id(22), id(gone))), p, r), api.ErrObject},
		{"a missing one ahead of a Number that is not below", on(row(10, commit(id(good), 1, id(gone), id(22))), p, r), api.ErrNone},
		{"a missing one ahead of a wrong Number", on(row(10, commit(id(good), 7, id(20), id(gone))), p), api.ErrNone},
		{"a missing folder ahead of a wrong parent", on(row(10, commit(id(gone), 1, id(text)))), api.ErrNone},
		{"a wrong folder ahead of a missing parent", on(row(10, commit(id(noRepo), 1, id(gone)))), api.ErrRepo},
		{"a wrong folder ahead of a wrong Number", on(row(10, commit(id(noRepo), 7))), api.ErrRepo},
		{"a parent's folder is missing", on(row(10, commit(id(good), 1, id(20))), row(20, commit(id(gone), 0))), api.ErrNone},
		{"a parent's folder is wrong", on(row(10, commit(id(good), 1, id(20))), row(20, commit(id(noRepo), 0))), api.ErrRepo},
		{"a missing parent ahead of the other one's folder", on(row(10, commit(id(good), 1, id(20), id(gone))), row(20, commit(id(noRepo), 0))), api.ErrNone},
		{"a wrong Number ahead of a parent's folder", on(row(10, commit(id(good), 2, id(20))), row(20, commit(id(noRepo), 0))), api.ErrObject},
		{"a parent's Number is wrong", on(row(10, commit(id(good), 2, id(20))), row(20, commit(id(good), 1))), api.ErrObject},
		{"the first one's folder ahead of the second one's", on(row(10, commit(id(good), 1, id(20), id(21))), row(20, commit(id(noRepo), 0)), row(21, commit(id(gone), 0))), api.ErrRepo},
		{"the second one's folder", on(row(10, commit(id(good), 1, id(20), id(21))), p, row(21, commit(id(noRepo), 0))), api.ErrRepo},
		{"a parent's parent is missing", on(row(10, commit(id(good), 2, id(22))), r), api.ErrNone},
		{"a parent's parent is a file", on(row(10, commit(id(good), 2, id(22))), r, row(20, blob(""))), api.ErrObject},
		{"a parent's parent's folder is wrong", on(row(10, commit(id(good), 2, id(22))), r, row(20, commit(id(noRepo), 0))), api.ErrRepo},
		{"the first one's parent ahead of the second one's folder", on(row(10, commit(id(good), 2, id(22), id(21))), r, row(21, commit(id(noRepo), 0))), api.ErrNone},
		{"two that are each other's parent", on(row(10, commit(id(good), 1, id(20))), row(20, commit(id(good), 0, id(10)))), api.ErrObject},
		{"three in a ring", on(row(10, commit(id(good), 2, id(20))), row(20, commit(id(good), 1, id(21))), row(21, commit(id(good), 0, id(10)))), api.ErrObject},
	} {
		if err := refs.Sound(x.h, id(10)); err != x.want {
			t.Errorf("%s: error %d, want %d", x.what, err, x.want)
		}
		check(t, x.what, x.h, id(10), id(20), id(21), id(22))
		slices.Reverse(x.h.List)
		check(t, x.what+", the other way round", x.h, id(10), id(20), id(21), id(22))
	}
}

// wrong is a way in which something is wrong, and the error that is told of it.
type wrong struct {
	rows []api.Held
	err  api.Errno
}

// P9.3: of all that can be wrong with a commit, its folder, its parents and what is behind them, what comes first in the chapter's order is told.
func TestOrder(t *testing.T) {
	note := commit(id(good), 2, id(20), id(21))
	note.Note = strings.Repeat("n", 201)
	counts := map[string]int{}
	parentWays := func(n, behind byte) []wrong {
		p := commit(id(good), 1, id(behind))
		long := p
		long.Note = strings.Repeat("n", 201)
		equal, above := p, p
		equal.Number, above.Number = 3, 4
		return []wrong{
			{[]api.Held{row(n, p)}, api.OK},
			{nil, api.ErrNone},
			{[]api.Held{row(n, folder())}, api.ErrObject},
			{[]api.Held{row(n, long)}, api.ErrObject},
			{[]api.Held{row(n, equal)}, api.ErrObject},
			{[]api.Held{row(n, above)}, api.ErrObject},
		}
	}
	behindWays := func(n byte) []wrong {
		return []wrong{
			{[]api.Held{row(n, commit(id(good), 0))}, api.OK},
			{nil, api.ErrNone},
			{[]api.Held{row(n, blob(""))}, api.ErrObject},
			{[]api.Held{row(n, commit(id(noRepo), 0))}, api.ErrRepo},
			{[]api.Held{row(n, commit(id(noTree), 0))}, api.ErrNone},
			{[]api.Held{row(n, commit(id(noFile), 0))}, api.ErrObject},
		}
	}
	trees := map[byte]api.Errno{good: api.OK, noTree: api.ErrNone, noFile: api.ErrObject, noRepo: api.ErrRepo, gone: api.ErrNone}
	for folder, treeErr := range trees {
		for number, numberErr := range map[uint32]api.Errno{2: api.OK, 3: api.ErrObject} {
			for i, p := range parentWays(20, 30) {
				for j, q := range parentWays(21, 31) {
					for _, a := range behindWays(30) {
						for _, b := range behindWays(31) {
							h := on(slices.Concat(p.rows, q.rows, a.rows, b.rows, []api.Held{row(10, commit(id(folder), number, id(20), id(21)))})...)
							want, at := api.OK, "none"
							for _, s := range []struct {
								at  string
								err api.Errno
							}{{"folder", treeErr}, {"first", p.err}, {"second", q.err}, {"number", numberErr}, {"behind the first", a.err}, {"behind the second", b.err}} {
								if want == api.OK && s.err != api.OK {
									want, at = s.err, s.at
								}
							}
							counts[at]++
							if err := refs.Sound(h, id(10)); err != want {
								t.Fatalf("folder %d, Number %d, parents %d, %d: error %d, want %d (%s)", folder, number, i, j, err, want, at)
							}
						}
					}
				}
			}
		}
	}
	for _, at := range []string{"none", "folder", "first", "second", "number", "behind the first", "behind the second"} {
		if counts[at] == 0 {
			t.Errorf("%s: never", at)
		}
	}
	for _, own := range []wrong{{nil, api.ErrNone}, {[]api.Held{row(10, blob(""))}, api.ErrObject}, {[]api.Held{row(10, note)}, api.ErrObject}} {
		if err := refs.Sound(on(own.rows...), id(10)); err != own.err {
			t.Errorf("%v: error %d", own.rows, err)
		}
	}
}

// P9.3: what was asked already is not asked again, and each is asked where it comes first: the history parts and comes together.
func TestPartAndMeet(t *testing.T) {
	// 10 has the parents 20 and 21; 20 has 30 and 31, 21 has 31 and 32; 31 is met by 20 first.
	make := func(a, b, c byte) api.Heap {
		return on(
			row(10, commit(id(good), 2, id(20), id(21))),
			row(20, commit(id(good), 1, id(30), id(31))), row(21, commit(id(good), 1, id(31), id(32))),
			row(30, commit(id(a), 0)), row(31, commit(id(b), 0)), row(32, commit(id(c), 0)),
		)
	}
	for _, x := range []struct {
		what string
		h    api.Heap
		want api.Errno
	}{
		{"right", make(good, good, good), api.OK},
		{"the first one", make(noTree, noRepo, noFile), api.ErrNone},
		{"the one between", make(good, noRepo, noFile), api.ErrRepo},
		{"the last one", make(good, good, noFile), api.ErrObject},
	} {
		if err := refs.Sound(x.h, id(10)); err != x.want {
			t.Errorf("%s: error %d, want %d", x.what, err, x.want)
		}
		check(t, x.what, x.h, id(10), id(20), id(21), id(30), id(31), id(32))
	}
	// 10 has 20 and 21, and 20 has 21, too: what is behind 21 comes ahead of the second one behind 20.
	h := on(
		row(10, commit(id(good), 3, id(20), id(21))), row(20, commit(id(good), 2, id(21), id(22))), row(21, commit(id(good), 1, id(30))),
		row(22, commit(id(noFile), 0)), row(30, commit(id(noRepo), 0)),
	)
	if err := refs.Sound(h, id(10)); err != api.ErrRepo {
		t.Errorf("met early: error %d", err)
	}
	check(t, "met early", h, id(10), id(20), id(21), id(22), id(30))
	// Both of each two have both of the two below as parents: there are 2^60 ways through.
	rows := on(row(20, commit(id(good), 0)), row(120, commit(id(empty), 0))).List
	for n := byte(1); n < 60; n++ {
		rows = append(rows, row(20+n, commit(id(good), uint32(n), id(19+n), id(119+n))), row(120+n, commit(id(good), uint32(n), id(119+n), id(19+n))))
	}
	h = api.Heap{List: rows}
	if line, err := refs.Line(h, id(79)); err != api.OK || len(line) != 60 || line[59] != id(20) {
		t.Errorf("a ladder: %v, error %d", line, err)
	}
	for _, old := range []byte{20, 79, 120, 178} {
		if is, err := refs.Above(h, id(old), id(79)); !is || err != api.OK {
			t.Errorf("a ladder: Above of %d: %v, error %d", old, is, err)
		}
	}
	if is, err := refs.Above(h, id(179), id(79)); is || err != api.OK {
		t.Errorf("a ladder: Above of its neighbour: %v, error %d", is, err)
	}
	rows[len(rows)-4].Object.Number++
	if err := refs.Sound(h, id(79)); err != api.ErrObject {
		t.Errorf("a ladder with a wrong Number: error %d", err)
	}
}

// P9.3, P9.4: of objects with one Id the first one counts.
func TestFirstCounts(t *testing.T) {
	p := row(20, commit(id(good), 0))
	c := row(10, commit(id(good), 1, id(20)))
	for _, x := range []struct {
		what string
		h    api.Heap
		want api.Errno
	}{
		{"a commit, then a file", on(p, c, row(10, blob(""))), api.OK},
		{"a file, then a commit", on(p, row(10, blob("")), c), api.ErrObject},
		{"a commit, then one with a missing folder", on(p, c, row(10, commit(id(gone), 1, id(20)))), api.OK},
		{"one with a missing folder, then a commit", on(p, row(10, commit(id(gone), 1, id(20))), c), api.ErrNone},
		{"a parent, then another one", on(p, c, row(20, commit(id(good), 1))), api.OK},
		{"another one, then a parent", on(c, row(20, commit(id(good), 1)), p), api.ErrObject},
		{"a folder, then one that is wrong", on(p, c, row(good, folder(sub("a", empty)))), api.OK},
		{"a folder that is wrong, then one", api.Heap{List: append([]api.Held{row(good, folder(sub("a", empty)))}, on(p, c).List...)}, api.ErrRepo},
		{"a file, then a folder", on(p, c, row(text, folder())), api.OK},
		{"a folder, then a file", api.Heap{List: append([]api.Held{row(text, folder())}, on(p, c).List...)}, api.ErrObject},
		{"all twice", api.Heap{List: append(on(p, c).List, on(p, c).List...)}, api.OK},
	} {
		if err := refs.Sound(x.h, id(10)); err != x.want {
			t.Errorf("%s: error %d, want %d", x.what, err, x.want)
		}
		check(t, x.what, x.h, id(10), id(20))
	}
	h := on(row(10, commit(id(good), 1, id(20))), row(20, commit(id(good), 0)), row(21, commit(id(good), 0)), row(10, commit(id(empty), 1, id(21))))
	if line, err := refs.Line(h, id(10)); err != api.OK || !slices.Equal(line, []api.Id{id(10), id(20)}) {
		t.Errorf("Line: %v, error %d", line, err)
	}
	if is, err := refs.Above(h, id(21), id(10)); err != api.OK || is {
		t.Errorf("Above: %v, error %d", is, err)
	}
	if r, err := refs.Repo(h, id(10)); err != api.OK || !tree.Same(r, files("a", "x")) {
		t.Errorf("Repo: %v, error %d", r, err)
	}
}

// P9.3: Repo asks the commit alone.
func TestRepoAlone(t *testing.T) {
	for _, c := range []api.Object{
		commit(id(good), 7), commit(id(good), 0, id(gone)), commit(id(good), 1, id(text)), commit(id(good), 1, id(longer), id(10)),
		commit(id(good), 0, id(10)), commit(id(good), 1<<32-1, id(gone), id(gone)), commit(id(good), 1, id(20)),
	} {
		h := on(row(10, c), row(20, commit(id(noRepo), 0)))
		if err := refs.Sound(h, id(10)); err == api.OK {
			t.Errorf("%v is sound", c)
		}
		if r, err := refs.Repo(h, id(10)); err != api.OK || !tree.Same(r, files("a", "x")) {
			t.Errorf("Repo of %v: %v, error %d", c, r, err)
		}
	}
	h := on(row(10, commit(id(noRepo), 0, id(gone))))
	if r, err := refs.Repo(h, id(10)); err != api.ErrRepo || r.Files != nil {
		t.Errorf("Repo of a wrong folder: %v, error %d", r, err)
	}
}

// P9.4: Line goes by the first parent, Above by both.
func TestLineAndAbove(t *testing.T) {
	// 10 - 11 - 12 - 13, and 11 has 20 as its second parent, 20 - 21.
	h := on(
		row(10, commit(id(good), 3, id(11))), row(11, commit(id(empty), 2, id(12), id(20))), row(12, commit(id(good), 1, id(13))), row(13, commit(id(good), 0)),
		row(20, commit(id(good), 1, id(21))), row(21, commit(id(empty), 0)), row(30, commit(id(good), 0)),
	)
	for from, want := range map[byte][]byte{10: {10, 11, 12, 13}, 11: {11, 12, 13}, 12: {12, 13}, 13: {13}, 20: {20, 21}, 21: {21}, 30: {30}} {
		line, err := refs.Line(h, id(from))
		var got []byte
		for _, c := range line {
			got = append(got, c[0])
		}
		if err != api.OK || !bytes.Equal(got, want) {
			t.Errorf("Line of %d: %v, error %d", from, got, err)
		}
	}
	for from, in := range map[byte][]byte{10: {10, 11, 12, 13, 20, 21}, 11: {11, 12, 13, 20, 21}, 12: {12, 13}, 13: {13}, 20: {20, 21}, 21: {21}, 30: {30}} {
		for old := range byte(99) {
			if is, err := refs.Above(h, id(old), id(from)); err != api.OK || is != bytes.Contains(in, []byte{old}) {
				t.Errorf("Above of %d and %d: %v, error %d", old, from, is, err)
			}
		}
	}
	for _, from := range []byte{gone, text, good, longer, 99} {
		want := api.ErrObject
		if from == gone || from == 99 {
			want = api.ErrNone
		}
		if line, err := refs.Line(h, id(from)); err != want || line != nil {
			t.Errorf("Line of %d: %v, error %d", from, line, err)
		}
		for _, old := range []byte{10, from} {
			if is, err := refs.Above(h, id(old), id(from)); err != want || is {
				t.Errorf("Above of %d and %d: %v, error %d", old, from, is, err)
			}
		}
	}
	// What is wrong behind the second parent alone is told, too, though no line goes there.
	h.List[len(h.List)-2].Object.Tree = id(noRepo)
	if line, err := refs.Line(h, id(10)); err != api.ErrRepo || line != nil {
		t.Errorf("Line: %v, error %d", line, err)
	}
	for _, old := range []byte{10, 11, 13, 20, 21} {
		if is, err := refs.Above(h, id(old), id(10)); err != api.ErrRepo || is {
			t.Errorf("Above of %d: %v, error %d", old, is, err)
		}
	}
	if line, err := refs.Line(h, id(12)); err != api.OK || len(line) != 2 {
		t.Errorf("Line of what is beside it: %v, error %d", line, err)
	}
}

// number is an Id by a great number.
func number(n int) api.Id { return api.Id{0xff, byte(n), byte(n >> 8), byte(n >> 16)} }

// P9.3, P9.4, R1: a line that is as long as calls should not be deep, its folder at the end of the heap.
func TestLongLine(t *testing.T) {
	const long = 60000
	var h api.Heap
	for n := range long {
		c := api.Held{Id: number(n), Object: commit(id(good), uint32(n))}
		if n > 0 {
			c.Object.Parents = []api.Id{number(n - 1)}
		}
		h.List = append(h.List, c)
	}
	h.List = append(h.List, on().List...)
	line, err := refs.Line(h, number(long-1))
	if err != api.OK || len(line) != long {
		t.Fatalf("%d commits, error %d", len(line), err)
	}
	for i, c := range line {
		if c != number(long-1-i) {
			t.Fatalf("at %d: %v", i, c)
		}
	}
	if is, err := refs.Above(h, number(0), number(long-1)); !is || err != api.OK {
		t.Errorf("Above of the first one: %v, error %d", is, err)
	}
	if is, err := refs.Above(h, number(long-1), number(0)); is || err != api.OK {
		t.Errorf("Above the other way round: %v, error %d", is, err)
	}
	list, c, err := refs.Commit(h, files("a", "x"), []api.Id{number(long - 1)}, "")
	if err != api.OK || len(list) != 3 || list[2].Id != c || list[2].Object.Number != long {
		t.Errorf("Commit: %v, error %d", list, err)
	}
	h.List[0].Object.Tree = id(noRepo)
	if err := refs.Sound(h, number(long-1)); err != api.ErrRepo {
		t.Errorf("a wrong first one: error %d", err)
	}
}

// P9.3 to P9.5: heaps by chance, whose Ids are what they say, against what has to be answered.
func TestHeapsByChance(t *testing.T) {
	sounds, repos, commits := map[api.Errno]int{}, map[api.Errno]int{}, map[api.Errno]int{}
	yes, no, long := 0, 0, 0
	for seed := range int64(1000) {
		rnd := rand.New(rand.NewSource(seed))
		h := anyHeap(rnd)
		all := firsts(h)
		for n := byte(10); n < 18; n++ {
			check(t, fmt.Sprint("seed ", seed), h, id(n), id(10), id(11), id(12), id(13), id(14), id(15), id(16), id(17))
			sounds[refs.Sound(h, id(n))]++
			_, err := refs.Repo(h, id(n))
			repos[err]++
			if line, _ := refs.Line(h, id(n)); len(line) > 3 {
				long++
			}
			if is, err := refs.Above(h, id(10), id(n)); is {
				yes++
			} else if err == api.OK {
				no++
			}
		}
		for range 4 {
			r := anyRepo(rnd)
			var parents []api.Id
			for range anyOf(rnd, 0, 1, 1, 2, 2, 2, 3) {
				parents = append(parents, id(byte(10+rnd.Intn(8))))
			}
			commits[checkCommit(t, fmt.Sprint("seed ", seed), h, all, r, parents, "n")]++
		}
	}
	for _, c := range []struct {
		what   string
		counts map[api.Errno]int
	}{{"Sound", sounds}, {"Repo", repos}, {"Commit", commits}} {
		for _, err := range []api.Errno{api.OK, api.ErrNone, api.ErrObject, api.ErrRepo} {
			if c.counts[err] < 100 {
				t.Errorf("%s: error %d came %d times", c.what, err, c.counts[err])
			}
		}
	}
	if yes < 100 || no < 100 || long < 100 {
		t.Errorf("Above: %d and %d times; long lines: %d", yes, no, long)
	}
}

// anyHeap is commits with the Ids 10 to 17, most of them right, in any order; some Ids stand there twice.
func anyHeap(rnd *rand.Rand) api.Heap {
	bad := anyOf(rnd, 10, 20, 40, 100, 1000)
	var rows []api.Held
	for n := byte(10); n < 18; n++ {
		c := commit(id(anyOf[byte](rnd, good, good, empty)), 0)
		for range anyOf(rnd, 0, 1, 1, 2, 2) {
			if n == 10 {
				break
			}
			p := rows[rnd.Intn(len(rows))]
			c.Parents = append(c.Parents, p.Id)
			c.Number = max(c.Number, p.Object.Number+1)
		}
		if rnd.Intn(bad) == 0 {
			c.Tree = id(anyOf[byte](rnd, noTree, noFile, noRepo, noRepo, noRepo, gone, text, 11))
		}
		if rnd.Intn(bad) == 0 {
			c.Number = anyOf(rnd, c.Number+1, c.Number-1, 0, 1, 1<<32-1)
		}
		if rnd.Intn(bad) == 0 && len(c.Parents) > 0 {
			c.Parents[rnd.Intn(len(c.Parents))] = id(anyOf[byte](rnd, gone, text, longer, n, n+1))
		}
		if rnd.Intn(bad) == 0 {
			c.Note = strings.Repeat("n", anyOf(rnd, 1, 200, 201))
		}
		rows = append(rows, row(n, c))
	}
	if rnd.Intn(bad) < 5 {
		rows = slices.Delete(rows, 2, 3)
	}
	if rnd.Intn(bad) < 5 {
		rows = append(rows, row(byte(10+rnd.Intn(8)), commit(id(good), 0)))
	}
	h := on(rows...)
	rnd.Shuffle(len(h.List), func(i, j int) { h.List[i], h.List[j] = h.List[j], h.List[i] })
	return h
}
