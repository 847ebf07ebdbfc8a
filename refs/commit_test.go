package refs_test

import (
	"fmt"
	"math/rand"
	"slices"
	"strings"
	"testing"

	"shipwright/api"
	"shipwright/object"
	"shipwright/refs"
	"shipwright/tree"
)

// checkCommit holds what Commit answers against what it has to, and what follows from that (P9.6), and tells the error.
func checkCommit(t *testing.T, what string, h api.Heap, all map[api.Id]api.Object, r api.Repo, parents []api.Id, note string) api.Errno {
	t.Helper()
	list, c, err := refs.Commit(h, r, parents, note)
	want, wantId, wantErr := wantCommit(all, r, parents, note)
	if err != wantErr || c != wantId || !sameHeld(list, want) {
		t.Fatalf("%s: Commit of %.200v with %v, %.9q: %.300v, %x, error %d, want %.300v, %x, %d", what, r, parents, note, list, c, err, want, wantId, wantErr)
	}
	if err == api.OK {
		follows(t, what, h, list, c, r, parents)
	}
	return err
}

// follows: P9.6.
func follows(t *testing.T, what string, h api.Heap, list []api.Held, c api.Id, r api.Repo, parents []api.Id) {
	t.Helper()
	behind := api.Heap{List: slices.Concat(h.List, list)}
	if err := refs.Sound(behind, c); err != api.OK {
		t.Fatalf("%s: what Commit tells is not sound: error %d", what, err)
	}
	if again, err := refs.Repo(behind, c); err != api.OK || !tree.Same(again, r) {
		t.Fatalf("%s: its repository is %v, error %d, want %v", what, again, err, r)
	}
	for _, old := range append(parents, c) {
		if is, err := refs.Above(behind, old, c); !is || err != api.OK {
			t.Fatalf("%s: Above of %x: %v, error %d", what, old, is, err)
		}
	}
	line, err := refs.Line(behind, c)
	if err != api.OK || line[0] != c || len(parents) > 0 && line[1] != parents[0] {
		t.Fatalf("%s: its line is %x, error %d", what, line, err)
	}
	for i, all := 1, firsts(behind); i < len(line); i++ {
		if all[line[i]].Number >= all[line[i-1]].Number {
			t.Fatalf("%s: Numbers do not fall: %d, %d", what, all[line[i-1]].Number, all[line[i]].Number)
		}
	}
	for _, x := range list {
		if digest, err := object.Id(x.Object); err != api.OK || digest != x.Id {
			t.Fatalf("%s: %v has another Id", what, x)
		}
	}
	// All that was told is there now: nothing is told again.
	if more, again, err := refs.Commit(behind, r, parents, firsts(behind)[c].Note); err != api.OK || again != c || len(more) != 0 {
		t.Fatalf("%s: again: %v, %x, error %d", what, more, again, err)
	}
}

// P9.5: which objects are told, in which order.
func TestCommitObjects(t *testing.T) {
	r := files("a/x.go", "1", "a/y.go", "1", "b/x.go", "1")
	text := held(blob("1"))
	a := held(folder(api.Entry{Name: "x.go", Id: text.Id}, api.Entry{Name: "y.go", Id: text.Id}))
	b := held(folder(api.Entry{Name: "x.go", Id: text.Id}))
	root := held(folder(api.Entry{Name: "a", Folder: true, Id: a.Id}, api.Entry{Name: "b", Folder: true, Id: b.Id}))
	c := commit(root.Id, 0)
	c.Note = "first"
	first := held(c)
	list, got, err := refs.Commit(api.Heap{}, r, nil, "first")
	if want := []api.Held{text, a, b, root, first}; err != api.OK || got != first.Id || !sameHeld(list, want) {
		t.Fatalf("the first one: %v, %x, error %d, want %v", list, got, err, want)
	}
	h := api.Heap{List: list}
	checkCommit(t, "the first one", api.Heap{}, nil, r, nil, "first")

	next := files("a/x.go", "1", "a/y.go", "2", "b/x.go", "1")
	text2 := held(blob("2"))
	a2 := held(folder(api.Entry{Name: "x.go", Id: text.Id}, api.Entry{Name: "y.go", Id: text2.Id}))
	root2 := held(folder(api.Entry{Name: "a", Folder: true, Id: a2.Id}, api.Entry{Name: "b", Folder: true, Id: b.Id}))
	second := held(commit(root2.Id, 1, first.Id))
	list, got, err = refs.Commit(h, next, []api.Id{first.Id}, "")
	if want := []api.Held{text2, a2, root2, second}; err != api.OK || got != second.Id || !sameHeld(list, want) {
		t.Fatalf("the second one: %v, %x, error %d, want %v", list, got, err, want)
	}
	// The same repository again is the commit alone.
	third := held(commit(root.Id, 1, first.Id))
	list, got, err = refs.Commit(h, r, []api.Id{first.Id}, "")
	if err != api.OK || got != third.Id || !sameHeld(list, []api.Held{third}) {
		t.Fatalf("the same repository: %v, %x, error %d", list, got, err)
	}
	// What the heap has is left out, whatever else it has not.
	for _, x := range []api.Held{text, a, b, root, first} {
		want := slices.DeleteFunc([]api.Held{text, a, b, root, first}, func(y api.Held) bool { return x.Id == y.Id })
		list, got, err := refs.Commit(api.Heap{List: []api.Held{x}}, r, nil, "first")
		if err != api.OK || got != first.Id || !sameHeld(list, want) {
			t.Errorf("without one: %v, %x, error %d", list, got, err)
		}
	}
}

// P9.5: a commit's Number is one more than the greatest of its parents'.
func TestCommitNumber(t *testing.T) {
	h := on(
		row(10, commit(id(good), 0)), row(11, commit(id(good), 1, id(10))), row(12, commit(id(good), 2, id(11))),
		row(13, commit(id(good), 3, id(12))), row(20, commit(id(empty), 0)),
	)
	for _, c := range []struct {
		parents []byte
		want    uint32
	}{{nil, 0}, {[]byte{10}, 1}, {[]byte{13}, 4}, {[]byte{10, 13}, 4}, {[]byte{13, 10}, 4}, {[]byte{13, 13}, 4}, {[]byte{20, 10}, 1}, {[]byte{12, 13}, 4}, {[]byte{20, 20}, 1}, {[]byte{20, 11}, 2}} {
		var parents []api.Id
		for _, n := range c.parents {
			parents = append(parents, id(n))
		}
		list, got, err := refs.Commit(h, files("a", "x"), parents, "note")
		if err != api.OK || len(list) != 3 {
			t.Fatalf("%v: %v, error %d", c.parents, list, err)
		}
		o := list[2].Object
		if list[2].Id != got || o.Kind != api.ObjCommit || o.Number != c.want || !slices.Equal(o.Parents, parents) || o.Note != "note" || o.Tree != list[1].Id {
			t.Errorf("%v: %v", c.parents, o)
		}
		checkCommit(t, "Number", h, firsts(h), files("a", "x"), parents, "note")
	}
}

// P9.5: wrong repositories, parents and notes, and which error is told where two could be.
func TestCommitErrors(t *testing.T) {
	note, long := strings.Repeat("n", 200), strings.Repeat("n", 201)
	h := on(
		row(10, commit(id(good), 0)), row(11, commit(id(good), 1, id(10))), row(12, commit(id(noRepo), 0)), row(13, commit(id(gone), 0)),
		row(14, commit(id(good), 1<<32-1)), row(15, commit(id(gone), 1<<32-1)), row(16, commit(id(good), 1<<32-2)),
		row(17, commit(id(good), 1, id(12))), row(18, commit(id(good), 1<<32-1, id(16))), row(19, commit(id(good), 1, id(gone))),
	)
	bad := files("b", "", "a", "")
	for _, c := range []struct {
		what    string
		r       api.Repo
		parents []byte
		note    string
		want    api.Errno
	}{
		{"nothing", api.Repo{}, nil, "", api.OK},
		{"a note of MaxNote bytes", files("a", ""), nil, note, api.OK},
		{"a note of one byte more", files("a", ""), nil, long, api.ErrObject},
		{"a note of any bytes", files("a", ""), nil, "\x00\xff\n", api.OK},
		{"one parent", files("a", ""), []byte{10}, "", api.OK},
		{"two parents", files("a", ""), []byte{11, 10}, "", api.OK},
		{"three parents", files("a", ""), []byte{11, 10, 10}, "", api.ErrObject},
		{"many parents", files("a", ""), make([]byte, 300), "", api.ErrObject},
		{"no repository", bad, nil, "", api.ErrRepo},
		{"more than MaxFiles", manyFiles(17), nil, "", api.ErrRepo},
		{"MaxFiles", manyFiles(16), []byte{10}, "", api.OK},
		{"no repository, three parents", bad, []byte{10, 10, 10}, "", api.ErrRepo},
		{"no repository, a long note", bad, nil, long, api.ErrRepo},
		{"no repository, a missing parent", bad, []byte{gone}, "", api.ErrRepo},
		{"no repository, the greatest Number", bad, []byte{14}, "", api.ErrRepo},
		{"a missing parent", files("a", ""), []byte{gone}, "", api.ErrNone},
		{"a parent that is a file", files("a", ""), []byte{text}, "", api.ErrObject},
		{"a parent that may not be", files("a", ""), []byte{longer}, "", api.ErrObject},
		{"a parent with a wrong folder", files("a", ""), []byte{12}, "", api.ErrRepo},
		{"a parent with a missing folder", files("a", ""), []byte{13}, "", api.ErrNone},
		{"a parent's parent with a wrong folder", files("a", ""), []byte{17}, "", api.ErrRepo},
		{"a parent's parent is missing", files("a", ""), []byte{19}, "", api.ErrNone},
		{"a parent of noughts", files("a", ""), []byte{0}, "", api.ErrNone},
		{"the greatest Number", files("a", ""), []byte{14}, "", api.ErrObject},
		{"the greatest Number, and no folder", files("a", ""), []byte{15}, "", api.ErrObject},
		{"the greatest Number of the second one, the first one missing", files("a", ""), []byte{gone, 15}, "", api.ErrObject},
		{"the greatest Number of the second one, the first one wrong", files("a", ""), []byte{12, 14}, "", api.ErrObject},
		{"the greatest Number of the first one, the second one missing", files("a", ""), []byte{15, gone}, "", api.ErrObject},
		{"the greatest Number, with a parent", files("a", ""), []byte{18}, "", api.ErrObject},
		{"one less than the greatest Number", files("a", ""), []byte{16}, "", api.ErrObject},
		{"a missing one, one less than the greatest Number", files("a", ""), []byte{gone, 16}, "", api.ErrNone},
		{"three parents, the first one missing", files("a", ""), []byte{gone, 10, 10}, "", api.ErrObject},
		{"a long note, and a missing parent", files("a", ""), []byte{gone}, long, api.ErrObject},
		{"a missing one ahead of a wrong one", files("a", ""), []byte{gone, 12}, "", api.ErrNone},
		{"a wrong one ahead of a missing one", files("a", ""), []byte{12, gone}, "", api.ErrRepo},
		{"a right one ahead of a missing one", files("a", ""), []byte{10, gone}, "", api.ErrNone},
		{"a right one ahead of a wrong one", files("a", ""), []byte{11, 12}, "", api.ErrRepo},
		{"a missing one ahead of a right one", files("a", ""), []byte{gone, 10}, "", api.ErrNone},
	} {
		var parents []api.Id
		for _, n := range c.parents {
			parents = append(parents, id(n))
		}
		list, got, err := refs.Commit(h, c.r, parents, c.note)
		if err != c.want || err != api.OK && (list != nil || got != api.Id{}) {
			t.Errorf("%s: %v, %x, error %d, want %d", c.what, list, got, err, c.want)
		}
		checkCommit(t, c.what, h, firsts(h), c.r, parents, c.note)
	}
}

// manyFiles is a repository of n files.
func manyFiles(n int) api.Repo {
	var r api.Repo
	for i := range n {
		r.Files = append(r.Files, api.File{Path: fmt.Sprintf("f%02d", i), Text: fmt.Sprint(i)})
	}
	return r
}

// P9.5: of all that can be wrong what comes first in the chapter's order is told.
func TestCommitOrder(t *testing.T) {
	repos := []struct {
		r   api.Repo
		err api.Errno
	}{{files("a", "1"), api.OK}, {files("a", "1", "a", "1"), api.ErrRepo}}
	notes := map[string]api.Errno{"": api.OK, strings.Repeat("n", 201): api.ErrObject}
	parents := map[byte]struct{ early, late api.Errno }{
		10: {}, gone: {late: api.ErrNone}, text: {late: api.ErrObject}, 12: {late: api.ErrRepo}, 15: {early: api.ErrObject, late: api.ErrNone},
	}
	counts := map[api.Errno]int{}
	for _, r := range repos {
		for note, noteErr := range notes {
			for p, pErrs := range parents {
				for q, qErrs := range parents {
					for _, twin := range []bool{false, true} {
						h := on(row(10, commit(id(good), 0)), row(12, commit(id(noRepo), 0)), row(15, commit(id(gone), 1<<32-1)))
						twinErr := api.OK
						if twin {
							h.List = append(h.List, api.Held{Id: digest(blob("1")), Object: blob("2")})
							twinErr = api.ErrTwin
						}
						var want api.Errno
						for _, err := range []api.Errno{r.err, noteErr, pErrs.early, qErrs.early, pErrs.late, qErrs.late, twinErr} {
							if want == api.OK {
								want = err
							}
						}
						counts[want]++
						if _, _, err := refs.Commit(h, r.r, []api.Id{id(p), id(q)}, note); err != want {
							t.Fatalf("%v, note %d, parents %d, %d, twin %v: error %d, want %d", r.r, len(note), p, q, twin, err, want)
						}
					}
				}
			}
		}
	}
	for _, err := range []api.Errno{api.OK, api.ErrRepo, api.ErrObject, api.ErrNone, api.ErrTwin} {
		if counts[err] == 0 {
			t.Errorf("error %d never came", err)
		}
	}
}

// P9.5: an Id of the heap under which an unlike object stands; the first one with that Id counts.
func TestCommitTwin(t *testing.T) {
	r := files("a/x.go", "1", "b", "2")
	first, c, err := refs.Commit(api.Heap{}, files("c", "3"), nil, "")
	if err != api.OK {
		t.Fatal(err)
	}
	parents := []api.Id{c}
	list, _, err := refs.Commit(api.Heap{List: first}, r, parents, "note")
	if err != api.OK || len(list) != 5 {
		t.Fatal(list, err)
	}
	for i, x := range list {
		for _, other := range unlike(x.Object) {
			twin := api.Held{Id: x.Id, Object: other}
			for _, c := range []struct {
				what string
				rows []api.Held
				want api.Errno
			}{
				{"an unlike one", []api.Held{twin}, api.ErrTwin},
				{"an unlike one ahead of it", []api.Held{twin, x}, api.ErrTwin},
				{"an unlike one behind it", []api.Held{x, twin}, api.OK},
				{"it", []api.Held{x}, api.OK},
			} {
				for _, rows := range [][]api.Held{slices.Concat(first, c.rows), slices.Concat(c.rows, first)} {
					h := api.Heap{List: rows}
					told, got, err := refs.Commit(h, r, parents, "note")
					if err != c.want {
						t.Errorf("%d, %s: %v, error %d, want %d", i, c.what, told, err, c.want)
					}
					if err != api.OK && (told != nil || got != api.Id{}) {
						t.Errorf("%d, %s: %v, %x beside an error", i, c.what, told, got)
					}
					if want := slices.Concat(list[:i], list[i+1:]); err == api.OK && !sameHeld(told, want) {
						t.Errorf("%d, %s: %v, want %v", i, c.what, told, want)
					}
					checkCommit(t, c.what, h, firsts(h), r, parents, "note")
				}
			}
		}
	}
	// An empty list is the same as none.
	h := api.Heap{List: cloned(list)}
	for i := range h.List {
		o := &h.List[i].Object
		if o.Bytes == nil {
			o.Bytes = []byte{}
		}
		if o.Entries == nil {
			o.Entries = []api.Entry{}
		}
		if o.Parents == nil {
			o.Parents = []api.Id{}
		}
	}
	h.List = append(h.List, first...)
	if told, _, err := refs.Commit(h, r, parents, "note"); err != api.OK || len(told) != 0 {
		t.Errorf("empty lists: %v, error %d", told, err)
	}
}

// unlike is objects that differ from one in one field each, right ones and wrong ones.
func unlike(o api.Object) []api.Object {
	kind, bytes, entries, root, parents, number, note := o, o, o, o, o, o, o
	kind.Kind = o.Kind%3 + 1
	bytes.Bytes = append([]byte("z"), o.Bytes...)
	entries.Entries = append(slices.Clone(o.Entries), api.Entry{Name: "zz"})
	root.Tree[31]++
	parents.Parents = append(slices.Clone(o.Parents), api.Id{})
	number.Number++
	note.Note += "z"
	return []api.Object{kind, bytes, entries, root, parents, number, note, {}, blob("other"), folder()}
}

// P9.5, P9.6: histories by chance, made by Commit, on a heap that grows.
func TestHistoriesByChance(t *testing.T) {
	counts := map[api.Errno]int{}
	for seed := range int64(15) {
		rnd := rand.New(rand.NewSource(seed))
		var h api.Heap
		var ids []api.Id
		for n := range 40 {
			r := anyRepo(rnd)
			if rnd.Intn(10) == 0 {
				r = files("b", "", "a", "")
			}
			var parents []api.Id
			for i := anyOf(rnd, 0, 1, 1, 1, 2, 2, 3); i > 0 && len(ids) > 0; i-- {
				parents = append(parents, ids[max(0, len(ids)-1-rnd.Intn(4))])
			}
			if rnd.Intn(10) == 0 {
				parents = append(parents, id(gone))
			}
			note := strings.Repeat("n", anyOf(rnd, 0, 1, n, 200, 200+rnd.Intn(2)))
			before := cloned(h.List)
			err := checkCommit(t, fmt.Sprint("seed ", seed), h, firsts(h), r, parents, note)
			if !sameHeld(h.List, before) {
				t.Fatalf("seed %d: the heap has changed", seed)
			}
			counts[err]++
			if err != api.OK {
				continue
			}
			list, c, _ := refs.Commit(h, r, parents, note)
			h.List = append(h.List, list...)
			ids = append(ids, c)
			check(t, fmt.Sprint("seed ", seed), h, c, ids...)
		}
		for _, c := range ids {
			check(t, fmt.Sprint("at the end, seed ", seed), h, c, ids...)
		}
	}
	for _, err := range []api.Errno{api.OK, api.ErrRepo, api.ErrObject, api.ErrNone} {
		if counts[err] < 30 {
			t.Errorf("error %d came %d times", err, counts[err])
		}
	}
}

// R3: what is handed in is not changed, nor the room behind it; what is told is new memory.
func TestShares(t *testing.T) {
	r := files("a/x.go", "1", "b", "2")
	first, c, _ := refs.Commit(api.Heap{}, files("c", "3"), nil, "")
	second, d, _ := refs.Commit(api.Heap{List: first}, files("b", "2"), []api.Id{c}, "")
	whole := slices.Concat(first, second)
	room := append(cloned(whole), api.Held{Id: id(1), Object: blob("room")}, api.Held{Id: id(2), Object: blob("more")})
	before := cloned(room)
	h := api.Heap{List: room[:len(whole)]}
	lists := []api.Id{d, c, id(77), id(78)}
	paths := append(slices.Clone(r.Files), api.File{Path: "room"}, api.File{Path: "more"})
	handed := api.Repo{Files: paths[:len(r.Files)]}
	told, e, err := refs.Commit(h, handed, lists[:2], "note")
	line, lineErr := refs.Line(h, d)
	got, repoErr := refs.Repo(h, d)
	if refs.Sound(h, d) != api.OK || err != api.OK || lineErr != api.OK || repoErr != api.OK {
		t.Fatal("errors", err, lineErr, repoErr)
	}
	if is, err := refs.Above(h, c, d); !is || err != api.OK {
		t.Fatal("Above", is, err)
	}
	if !sameHeld(room, before) || !slices.Equal(lists, []api.Id{d, c, id(77), id(78)}) || !slices.Equal(paths, append(slices.Clone(r.Files), api.File{Path: "room"}, api.File{Path: "more"})) {
		t.Error("what was handed in has changed")
	}
	keptTold, keptLine, keptRepo := cloned(told), slices.Clone(line), slices.Clone(got.Files)
	if o := told[len(told)-1].Object; told[len(told)-1].Id != e || !slices.Equal(o.Parents, []api.Id{d, c}) {
		t.Fatalf("the commit is %v", o)
	}
	spoil(room)
	clear(lists)
	clear(paths)
	if !sameHeld(told, keptTold) || !slices.Equal(line, keptLine) || !slices.Equal(got.Files, keptRepo) {
		t.Error("what was told has changed with what was handed in")
	}
	room, lists, paths = cloned(before), []api.Id{d, c}, slices.Clone(r.Files)
	h = api.Heap{List: room[:len(whole)]}
	told, _, _ = refs.Commit(h, api.Repo{Files: paths}, lists, "note")
	line, _ = refs.Line(h, d)
	got, _ = refs.Repo(h, d)
	spoil(told)
	clear(line[:cap(line)])
	clear(got.Files[:cap(got.Files)])
	if !sameHeld(room, before) || !slices.Equal(lists, []api.Id{d, c}) || !slices.Equal(paths, r.Files) {
		t.Error("what was handed in has changed with what was told")
	}
}

// spoil changes all that objects have, the room behind their lists, too.
func spoil(list []api.Held) {
	for i := range list {
		o := &list[i].Object
		clear(o.Bytes[:cap(o.Bytes)])
		clear(o.Entries[:cap(o.Entries)])
		clear(o.Parents[:cap(o.Parents)])
	}
	clear(list[:cap(list)])
}
