package tree_test

import (
	"fmt"
	"math/rand"
	"reflect"
	"slices"
	"strings"
	"testing"

	"shipwright/api"
	"shipwright/tree"
)

// files is a repository of paths and texts by turns, in the order in which they are given.
func files(list ...string) api.Repo {
	var r api.Repo
	for i := 0; i < len(list); i += 2 {
		r.Files = append(r.Files, api.File{Path: list[i], Text: list[i+1]})
	}
	return r
}

// many is a repository of n files with one text.
func many(n int, text string) api.Repo {
	var r api.Repo
	for i := range n {
		r.Files = append(r.Files, api.File{Path: fmt.Sprintf("f%02d", i), Text: text})
	}
	return r
}

// deep is a path of n names.
func deep(n int) string {
	return strings.Join([]string{"a", "b", "c", "d", "e", "f"}[:n], "/")
}

// long is a path of so many bytes.
func long(n int) string {
	a, b := strings.Repeat("x", 24), strings.Repeat("y", 20)
	return a + "/" + b + "/" + strings.Repeat("z", n-46)
}

// P7.1: Path.
func TestPath(t *testing.T) {
	for _, c := range []struct {
		path string
		want bool
	}{
		{"a/b/c/d", true}, {"a//b", false}, {"/a", false}, // the chapter's
		{"", false}, {"a", true}, {deep(1), true}, {deep(4), true}, {deep(5), false}, {deep(6), false},
		{"a/", false}, {"/", false}, {"//", false}, {"a/b/", false}, {"a/b//", false}, {"/a/b", false}, {"a/b/c/d/", false},
		{long(63), true}, {long(64), true}, {long(65), false}, {long(70), false},
		{strings.Repeat("a", 24), true}, {strings.Repeat("a", 25), false}, {"a/" + strings.Repeat("a", 25), false},
		{strings.Repeat("a/", 1<<20) + "a", false}, {strings.Repeat("/", 1<<20), false},
		{".", false}, {"..", false}, {"...", true}, {"a/.", false}, {"a/../b", false}, {"./a", false}, {"a/...", true},
		{"A.z_0-9", true}, {"-/_/./a", false}, {"-/_/.a/a", true},
		{"a b", false}, {"a/b c", false}, {"a\\b", false}, {"a/é", false}, {"a/\xff", false}, {"a\x00", false}, {"a\n", false},
		{"a/b/c/ ", false}, {" /b/c/d", false}, {"a:b", false}, {"a@", false}, {"a`", false}, {"a{", false}, {"a[", false},
	} {
		if got := tree.Path(c.path); got != c.want || got != mayPath(c.path) {
			t.Errorf("Path(%.80q): %v, want %v", c.path, got, c.want)
		}
	}
}

// P7.1: every byte at every place of a path.
func TestPathBytes(t *testing.T) {
	for _, path := range []string{"a", "ab", "a/b", "a/bc/d", "x/y/z/w"} {
		for i := range path {
			for b := range 256 {
				s := path[:i] + string([]byte{byte(b)}) + path[i+1:]
				if tree.Path(s) != mayPath(s) {
					t.Errorf("Path(%q): %v", s, tree.Path(s))
				}
			}
		}
	}
}

// P7.1: Check.
func TestCheck(t *testing.T) {
	big := strings.Repeat("t", 4096)
	for _, c := range []struct {
		what string
		r    api.Repo
		want api.Errno
	}{
		{"none", api.Repo{}, api.OK},
		{"an empty list", api.Repo{Files: []api.File{}}, api.OK},
		{"one file", files("a", ""), api.OK},
		{"MaxFiles", many(16, "x"), api.OK},
		{"one more than MaxFiles", many(17, "x"), api.ErrRepo},
		{"many more", many(99, ""), api.ErrRepo},
		{"a text of MaxText", files("a", big), api.OK},
		{"one byte more", files("a", big+"t"), api.ErrRepo},
		{"one byte more in the last file", files("a", "", "b", big+"t"), api.ErrRepo},
		{"MaxSource in 4 files", many(4, big), api.OK},
		{"MaxSource in 16 files", many(16, big[:1024]), api.OK},
		{"one byte more than MaxSource", api.Repo{Files: append(many(4, big).Files, api.File{Path: "g", Text: "t"})}, api.ErrRepo},
		{"no byte more than MaxSource", api.Repo{Files: append(many(4, big).Files, api.File{Path: "g"})}, api.OK},
		{"one byte more than MaxSource, in the first file", api.Repo{Files: append(files("a", "t").Files, many(4, big).Files...)}, api.ErrRepo},
		{"a text of any bytes", files("a", "\x00\xff\n/"), api.OK},
		{"paths that fall", files("b", "", "a", ""), api.ErrRepo},
		{"paths that fall at the end", files("a", "", "c", "", "b", ""), api.ErrRepo},
		{"a path twice", files("a", "", "a", ""), api.ErrRepo},
		{"a path twice, not side by side", files("a", "", "b", "", "a", ""), api.ErrRepo},
		{"rising byte by byte", files("B", "", "a", "", "a-", "", "a.go", "", "a0", "", "aa", ""), api.OK},
		{"not rising byte by byte", files("a", "", "B", ""), api.ErrRepo},
		{"a file that is a folder", files("a", "", "a/b", ""), api.ErrRepo},
		{"a file that is a folder, others between", files("a", "", "a-", "", "a-b", "", "a.go", "", "a/b", ""), api.ErrRepo},
		{"a file that is a folder, deep", files("a/b", "", "a/b-c", "", "a/b/c/d", ""), api.ErrRepo},
		{"a file that is a folder's folder", files("a", "", "a/b/c/d", ""), api.ErrRepo},
		{"a file in a folder that is a folder", files("a/b/c", "", "a/b/c/d", ""), api.ErrRepo},
		{"a beginning that goes on otherwise", files("a", "", "a-/b", "", "aa/b", "", "ab", ""), api.OK},
		{"a beginning that goes on otherwise, deep", files("a/b", "", "a/b-/c", "", "a/bb", ""), api.OK},
		{"an ending", files("a/b", "", "b", ""), api.OK},
		{"a file named as one in a folder", files("a/b/c", "", "b/c", "", "c", ""), api.OK},
		{"no path", files("", ""), api.ErrRepo},
		{"no path, ahead of others", files("", "", "a", ""), api.ErrRepo},
		{"a slash at the beginning", files("/a", ""), api.ErrRepo},
		{"a slash at the end", files("a/", ""), api.ErrRepo},
		{"two slashes", files("a", "", "b//c", ""), api.ErrRepo},
		{"five names", files(deep(5), ""), api.ErrRepo},
		{"four names", files(deep(4), ""), api.OK},
		{"MaxPath bytes", files(long(64), ""), api.OK},
		{"one byte more than MaxPath", files("a", "", long(65), ""), api.ErrRepo},
		{"a name that may not be", files("a", "", "b c", ""), api.ErrRepo},
	} {
		if got := tree.Check(c.r); got != c.want || mayRepo(c.r) != (got == api.OK) {
			t.Errorf("%s: %d, want %d", c.what, got, c.want)
		}
		checkNone(t, c.what, c.r)
	}
}

// checkNone: what is no repository is ErrRepo to each call, and what is one to none of them by itself.
func checkNone(t *testing.T, what string, r api.Repo) {
	t.Helper()
	want := mayRepo(r)
	heap, root, err := tree.Split(r)
	if (err == api.OK) != want || !want && (err != api.ErrRepo || heap.List != nil || root != api.Id{}) {
		t.Errorf("%s: Split: %d objects, error %d", what, len(heap.List), err)
	}
	if want {
		return
	}
	if text, err := tree.Get(r, "a"); err != api.ErrRepo || text != "" {
		t.Errorf("%s: Get: %q, error %d", what, text, err)
	}
	for _, path := range []string{"a", "zz", "", "/"} {
		if got, err := tree.Put(r, path, ""); err != api.ErrRepo || got.Files != nil {
			t.Errorf("%s: Put at %q: %v, error %d", what, path, got, err)
		}
		if got, err := tree.Remove(r, path); err != api.ErrRepo || got.Files != nil {
			t.Errorf("%s: Remove of %q: %v, error %d", what, path, got, err)
		}
	}
	for _, pair := range [][2]api.Repo{{r, {}}, {{}, r}, {r, r}} {
		if got, err := tree.Diff(pair[0], pair[1]); err != api.ErrRepo || got != nil {
			t.Errorf("%s: Diff: %v, error %d", what, got, err)
		}
	}
}

// P7.3: what is no repository may not be mended by Put or Remove.
func TestNoMending(t *testing.T) {
	if _, err := tree.Remove(many(17, ""), "f03"); err != api.ErrRepo {
		t.Errorf("Remove of one file too many: %d", err)
	}
	if _, err := tree.Remove(files("a", "", "a/b", ""), "a"); err != api.ErrRepo {
		t.Errorf("Remove of a file that is a folder: %d", err)
	}
	if _, err := tree.Put(files("a", strings.Repeat("x", 4097)), "a", ""); err != api.ErrRepo {
		t.Errorf("Put in the place of a text that is too long: %d", err)
	}
	if _, err := tree.Get(files("a", "1", "b", strings.Repeat("x", 4097)), "a"); err != api.ErrRepo {
		t.Errorf("Get beside a text that is too long: %d", err)
	}
}

// P7.1: Same asks for the files alone, of what is no repository, too.
func TestSame(t *testing.T) {
	for _, c := range []struct {
		a, b api.Repo
		want bool
	}{
		{api.Repo{}, api.Repo{Files: []api.File{}}, true},
		{files("a", "1"), files("a", "1"), true},
		{files("a", "1"), files("a", "2"), false},
		{files("a", "1"), files("b", "1"), false},
		{files("a", "1"), api.Repo{}, false},
		{files("a", "1", "b", "2"), files("a", "1"), false},
		{files("a", "1", "b", "2"), files("a", "1", "b", "2"), true},
		{files("a", "1", "b", "2"), files("a", "1", "b", "3"), false},
		{files("a", "1", "b", "2"), files("b", "2", "a", "1"), false},
		{files("b", "", "", "x"), files("b", "", "", "x"), true},
		{files("/", "", "/", ""), files("/", ""), false},
	} {
		if tree.Same(c.a, c.b) != c.want || tree.Same(c.b, c.a) != c.want {
			t.Errorf("Same(%v, %v): not %v", c.a, c.b, c.want)
		}
	}
}

// P7.2: Split, its objects and their order, named one by one.
func TestSplit(t *testing.T) {
	one, two := held(blob("1")), held(blob("2"))
	in := func(name string, x api.Held) api.Entry {
		return api.Entry{Name: name, Folder: x.Object.Kind == api.ObjTree, Id: x.Id}
	}
	a := held(folder(in("x.go", one), in("y.go", one)))
	b := held(folder(in("x.go", one)))
	c := held(folder(in("x.go", two)))
	for _, x := range []struct {
		what string
		r    api.Repo
		want []api.Held
	}{
		{"none", api.Repo{}, []api.Held{held(folder())}},
		{"the chapter's", files("a/x.go", "1", "a/y.go", "1", "b/x.go", "1"),
			[]api.Held{one, a, b, held(folder(in("a", a), in("b", b)))}},
		{"folders that are the same", files("a/x.go", "1", "b/x.go", "1", "c/x.go", "2", "d/x.go", "1"),
			[]api.Held{one, b, two, c, held(folder(in("a", b), in("b", b), in("c", c), in("d", b)))}},
		{"a folder as deep as may be, and a file behind it", files("a/b/c/x.go", "1", "d", "2"),
			[]api.Held{one, b, held(folder(in("c", b))), held(folder(in("b", held(folder(in("c", b)))))), two,
				held(folder(in("a", held(folder(in("b", held(folder(in("c", b))))))), in("d", two)))}},
		{"a folder whose name stands ahead, though its paths stand behind", files("a-", "2", "a.go", "2", "a/x.go", "1"),
			[]api.Held{one, b, two, held(folder(in("a", b), in("a-", two), in("a.go", two)))}},
		{"a folder and the uppermost one that are the same but for names", files("x.go", "1", "y/x.go", "1"),
			[]api.Held{one, b, held(folder(in("x.go", one), in("y", b)))}},
		{"an empty file", files("x", ""), []api.Held{held(blob("")), held(folder(in("x", held(blob("")))))}},
	} {
		heap, root, err := tree.Split(x.r)
		if err != api.OK || !sameHeaps(heap, api.Heap{List: x.want}) || root != x.want[len(x.want)-1].Id {
			t.Errorf("%s: %v, root %x, error %d", x.what, heap, root, err)
		}
	}
}

// P7.2, P7.5: Split and Load of repositories by chance, and of the greatest ones.
func TestSplitLoad(t *testing.T) {
	rnd := rand.New(rand.NewSource(7))
	list := []api.Repo{{}, many(16, strings.Repeat("x", 1024)), many(4, strings.Repeat("y", 4096)), files(long(64), "1"), files(deep(4), "")}
	for range 2000 {
		list = append(list, anyRepo(rnd))
	}
	for _, r := range list {
		heap, root, err := tree.Split(r)
		want, wantRoot := split(r)
		if err != api.OK || root != wantRoot || !sameHeaps(heap, want) {
			t.Fatalf("Split(%v): %v, root %x, error %d", r, heap, root, err)
		}
		again, err := tree.Load(heap, root)
		if err != api.OK || !tree.Same(again, r) {
			t.Fatalf("Load of Split(%v): %v, error %d", r, again, err)
		}
		rnd.Shuffle(len(heap.List), func(i, j int) { heap.List[i], heap.List[j] = heap.List[j], heap.List[i] })
		heap.List = append(heap.List, api.Held{Id: api.Id{1}}, api.Held{Id: root, Object: blob("x")})
		if again, err := tree.Load(heap, root); err != api.OK || !tree.Same(again, r) {
			t.Fatalf("Load of Split(%v) in another order: %v, error %d", r, again, err)
		}
	}
}

// P7.5: two repositories have one root just if they are the same.
func TestRoots(t *testing.T) {
	rnd := rand.New(rand.NewSource(75))
	seen := map[api.Id]api.Repo{}
	same := 0
	for range 3000 {
		r := anyRepo(rnd)
		if len(r.Files) > 2 && rnd.Intn(2) == 0 {
			r.Files = r.Files[:2]
		}
		_, root, _ := tree.Split(r)
		if old, ok := seen[root]; ok {
			same++
			if !tree.Same(old, r) {
				t.Fatalf("one root: %v, %v", old, r)
			}
		}
		seen[root] = r
	}
	all := map[string]bool{}
	for _, r := range seen {
		all[fmt.Sprintf("%q", r.Files)] = true
	}
	if len(all) != len(seen) || same < 50 {
		t.Errorf("%d roots of %d repositories, %d met again", len(seen), len(all), same)
	}
}

// named is an entry; its Id is one that the test gives it, not a digest: the heap says which Id an object has.
func named(name string, dir bool, id byte) api.Entry {
	return api.Entry{Name: name, Folder: dir, Id: api.Id{id}}
}

// under is an object under such an Id.
func under(id byte, o api.Object) api.Held { return api.Held{Id: api.Id{id}, Object: o} }

// chain is a heap of n folders in one another, a file (10) in the last one: the first is 1, and so on.
func chain(n int) []api.Held {
	var list []api.Held
	for i := 1; i < n; i++ {
		list = append(list, under(byte(i), folder(named("a", true, byte(i+1)))))
	}
	return append(list, under(byte(n), folder(named("x", false, 10))), under(10, blob("t")))
}

// wide is a folder of n files: 10 and so on.
func wide(n int) api.Object {
	var o api.Object
	for i := range n {
		o.Entries = append(o.Entries, named(fmt.Sprintf("f%02d", i), false, byte(10+i)))
	}
	o.Kind = api.ObjTree
	return o
}

// blobs are the files 10 and so on, n of them.
func blobs(n int, text string) []api.Held {
	var list []api.Held
	for i := range n {
		list = append(list, under(byte(10+i), blob(text)))
	}
	return list
}

// P7.2: Load of heaps laid by hand, the root being 1.
func TestLoad(t *testing.T) {
	big := strings.Repeat("t", 4096)
	with := func(a []api.Held, b ...api.Held) []api.Held { return append(slices.Clone(a), b...) }
	commit := api.Object{Kind: api.ObjCommit}
	bad := folder(named("b", false, 10), named("a", false, 10))
	odd := blob("t")
	odd.Note = "n"
	one := folder(named("a", false, 10))
	for _, c := range []struct {
		what string
		list []api.Held
		want api.Repo
		err  api.Errno
	}{
		{"no heap", nil, api.Repo{}, api.ErrNone},
		{"a root that is not there", []api.Held{under(2, folder())}, api.Repo{}, api.ErrNone},
		{"a root without entries", []api.Held{under(1, folder())}, api.Repo{}, api.OK},
		{"a file", []api.Held{under(10, blob("t")), under(1, one)}, files("a", "t"), api.OK},
		{"a file, the root first", []api.Held{under(1, one), under(10, blob("t"))}, files("a", "t"), api.OK},
		{"objects that are not needed, and may not be", []api.Held{under(3, odd), under(1, one), under(10, blob("t")), under(4, bad), under(5, api.Object{})}, files("a", "t"), api.OK},
		{"an Id twice: the first file counts", []api.Held{under(1, one), under(10, blob("t")), under(10, blob("u"))}, files("a", "t"), api.OK},
		{"an Id twice: the first root counts", []api.Held{under(1, folder()), under(1, one), under(10, blob("t"))}, api.Repo{}, api.OK},
		{"an Id twice: the first one may not be", []api.Held{under(1, one), under(10, odd), under(10, blob("t"))}, api.Repo{}, api.ErrObject},
		{"an Id twice: the second one may not be", []api.Held{under(1, one), under(10, blob("t")), under(10, odd), under(1, bad)}, files("a", "t"), api.OK},
		{"a root that is a file", []api.Held{under(1, blob("t"))}, api.Repo{}, api.ErrObject},
		{"a root that is a commit", []api.Held{under(1, commit)}, api.Repo{}, api.ErrObject},
		{"a root of no Kind", []api.Held{under(1, api.Object{})}, api.Repo{}, api.ErrObject},
		{"a root that may not be", []api.Held{under(1, bad), under(10, blob("t"))}, api.Repo{}, api.ErrObject},
		{"a root that may not be, ahead of a file that is missing", []api.Held{under(1, bad)}, api.Repo{}, api.ErrObject},
		{"a file that is missing", []api.Held{under(1, one)}, api.Repo{}, api.ErrNone},
		{"a file that is a folder", []api.Held{under(1, one), under(10, one)}, api.Repo{}, api.ErrObject},
		{"a file that is an empty folder", []api.Held{under(1, one), under(10, folder())}, api.Repo{}, api.ErrObject},
		{"a file that is a commit", []api.Held{under(1, one), under(10, commit)}, api.Repo{}, api.ErrObject},
		{"a file that may not be", []api.Held{under(1, one), under(10, odd)}, api.Repo{}, api.ErrObject},
		{"a file of MaxText", []api.Held{under(1, one), under(10, blob(big))}, files("a", big), api.OK},
		{"a file of more than MaxText", []api.Held{under(1, one), under(10, blob(big+"t"))}, api.Repo{}, api.ErrObject},
		{"a folder that is missing", []api.Held{under(1, folder(named("a", true, 2)))}, api.Repo{}, api.ErrNone},
		{"a folder that is a file", []api.Held{under(1, folder(named("a", true, 2))), under(2, blob(""))}, api.Repo{}, api.ErrObject},
		{"a folder that is a commit", []api.Held{under(1, folder(named("a", true, 2))), under(2, commit)}, api.Repo{}, api.ErrObject},
		{"a folder that may not be", []api.Held{under(1, folder(named("a", true, 2))), under(2, bad), under(10, blob(""))}, api.Repo{}, api.ErrObject},
		{"a folder without entries", []api.Held{under(1, folder(named("a", true, 2))), under(2, folder())}, api.Repo{}, api.ErrRepo},
		{"a folder without entries, ahead of a file that is missing", []api.Held{under(1, folder(named("a", true, 2), named("b", false, 10))), under(2, folder())}, api.Repo{}, api.ErrRepo},
		{"a folder without entries, behind a file that is missing", []api.Held{under(1, folder(named("a", false, 10), named("b", true, 2))), under(2, folder())}, api.Repo{}, api.ErrNone},
		{"a folder without entries, behind a file that may not be", []api.Held{under(1, folder(named("a", false, 10), named("b", true, 2))), under(2, folder()), under(10, odd)}, api.Repo{}, api.ErrObject},
		{"a missing one ahead of one of another Kind", []api.Held{under(1, folder(named("a", false, 9), named("b", false, 1)))}, api.Repo{}, api.ErrNone},
		{"one of another Kind ahead of a missing one", []api.Held{under(1, folder(named("a", false, 1), named("b", false, 9)))}, api.Repo{}, api.ErrObject},
		{"a folder's own missing one, where the folder stands", []api.Held{under(1, folder(named("a", true, 2), named("b", false, 1))), under(2, folder(named("a", false, 9)))}, api.Repo{}, api.ErrNone},
		{"one of another Kind ahead of a folder with a missing one", []api.Held{under(1, folder(named("a", false, 1), named("b", true, 2))), under(2, folder(named("a", false, 9)))}, api.Repo{}, api.ErrObject},
		{"one folder in another", chain(2), files("a/x", "t"), api.OK},
		{"four folders in one another", chain(4), files("a/a/a/x", "t"), api.OK},
		{"five folders in one another", chain(5), api.Repo{}, api.ErrRepo},
		{"six folders in one another", chain(6), api.Repo{}, api.ErrRepo},
		{"five folders in one another, the fifth one missing", slices.Delete(chain(5), 4, 5), api.Repo{}, api.ErrRepo},
		{"five folders in one another, the fourth one missing", slices.Delete(chain(5), 3, 4), api.Repo{}, api.ErrNone},
		{"a folder that is in itself", []api.Held{under(1, folder(named("a", true, 1)))}, api.Repo{}, api.ErrRepo},
		{"a folder that is in itself, and a missing one behind", []api.Held{under(1, folder(named("a", true, 1), named("b", false, 9)))}, api.Repo{}, api.ErrRepo},
		{"a folder that is in itself, and a missing one ahead", []api.Held{under(1, folder(named("A", false, 9), named("a", true, 1)))}, api.Repo{}, api.ErrNone},
		{"MaxFiles", with(blobs(16, "t"), under(1, wide(16))), api.Repo{Files: many(16, "t").Files}, api.OK},
		{"one file more", with(blobs(17, "t"), under(1, wide(17))), api.Repo{}, api.ErrRepo},
		{"MaxEntries", with(blobs(32, "t"), under(1, wide(32))), api.Repo{}, api.ErrRepo},
		{"more entries than may be", with(blobs(33, "t"), under(1, wide(33))), api.Repo{}, api.ErrObject},
		{"one file more, which is missing", with(blobs(16, "t"), under(1, wide(17))), api.Repo{}, api.ErrRepo},
		{"two files more, the last one missing", with(blobs(17, "t"), under(1, wide(18))), api.Repo{}, api.ErrRepo},
		{"one file more, and one ahead that is missing", with(blobs(17, "t")[1:], under(1, wide(17))), api.Repo{}, api.ErrNone},
		{"one file more, in folders", with(blobs(16, "t"), under(2, wide(16)), under(1, folder(named("a", true, 2), named("b", false, 10)))), api.Repo{}, api.ErrRepo},
		{"MaxSource", with(blobs(4, big), under(1, wide(4))), many(4, big), api.OK},
		{"more than MaxSource", with(blobs(5, big), under(1, wide(5))), api.Repo{}, api.ErrRepo},
		{"more than MaxSource, and a missing one behind", with(blobs(5, big), under(1, wide(6))), api.Repo{}, api.ErrNone},
		{"more than MaxSource, and one of another Kind behind", with(blobs(5, big), under(1, wide(6)), under(15, commit)), api.Repo{}, api.ErrObject},
		{"a path that is too long", []api.Held{under(1, folder(named(long(64)[:24], true, 2))), under(2, folder(named(long(64)[:24], true, 3))), under(3, folder(named(long(64)[:20], false, 10))), under(10, blob(""))}, api.Repo{}, api.ErrRepo},
		{"a path that is too long, and a missing one behind", []api.Held{under(1, folder(named(long(64)[:24], true, 2), named("z", false, 9))), under(2, folder(named(long(64)[:24], true, 3))), under(3, folder(named(long(64)[:20], false, 10))), under(10, blob(""))}, api.Repo{}, api.ErrNone},
		{"paths that rise otherwise than names", []api.Held{under(1, folder(named("a", true, 2), named("a-", false, 11), named("a.go", true, 2), named("a0", false, 10))), under(2, folder(named("x", false, 10))), under(10, blob("t")), under(11, blob("u"))}, files("a-", "u", "a.go/x", "t", "a/x", "t", "a0", "t"), api.OK},
	} {
		h := api.Heap{List: c.list}
		was := cloned(h)
		got, err := tree.Load(h, api.Id{1})
		if err != c.err || !tree.Same(got, c.want) {
			t.Errorf("%s: %.200v, error %d, want %.200v, %d", c.what, got, err, c.want, c.err)
		}
		if m, e := load(h, api.Id{1}); e != c.err || !tree.Same(m, c.want) {
			t.Errorf("%s: the model has %.200v, error %d", c.what, m, e)
		}
		if !sameHeaps(h, was) {
			t.Errorf("%s: the heap has changed", c.what)
		}
	}
}

// shaken is a heap in which a few things are other than they were.
func shaken(rnd *rand.Rand, h api.Heap) api.Heap {
	h = cloned(h)
	for n := rnd.Intn(4); n > 0 && len(h.List) > 0; n-- {
		i, j := rnd.Intn(len(h.List)), rnd.Intn(len(h.List))
		o := &h.List[i].Object
		switch rnd.Intn(8) {
		case 0:
			h.List = slices.Delete(h.List, i, i+1)
		case 1:
			h.List[i].Id = h.List[j].Id
		case 2:
			h.List = slices.Insert(h.List, j, h.List[i])
		case 3:
			o.Kind = rnd.Intn(5)
		case 4:
			*o = folder()
		case 5:
			if len(o.Entries) > 0 {
				e := &o.Entries[rnd.Intn(len(o.Entries))]
				e.Folder = !e.Folder
			}
		case 6:
			if len(o.Entries) > 0 {
				o.Entries[rnd.Intn(len(o.Entries))].Id = h.List[j].Id
			}
		case 7:
			if len(o.Entries) > 0 {
				o.Entries[rnd.Intn(len(o.Entries))].Name = anyPath(rnd)
			}
		}
	}
	rnd.Shuffle(len(h.List), func(i, j int) { h.List[i], h.List[j] = h.List[j], h.List[i] })
	return h
}

// P7.2: Load of heaps in which something is wrong, by chance: all four answers come often.
func TestLoadWrong(t *testing.T) {
	rnd := rand.New(rand.NewSource(72))
	count := map[api.Errno]int{}
	for range 8000 {
		h, root := split(anyRepo(rnd))
		h = shaken(rnd, h)
		got, err := tree.Load(h, root)
		want, wantErr := load(h, root)
		if err != wantErr || !tree.Same(got, want) {
			t.Fatalf("Load(%v): %v, error %d, want %v, %d", h, got, err, want, wantErr)
		}
		count[err]++
	}
	for _, err := range []api.Errno{api.OK, api.ErrNone, api.ErrObject, api.ErrRepo} {
		if count[err] < 100 {
			t.Errorf("error %d came %d times", err, count[err])
		}
	}
}

// P7.3: Get.
func TestGet(t *testing.T) {
	r := files("B", "0", "a-", "1", "a/b", "2", "a/c/d", "", "b", "4")
	for _, f := range r.Files {
		if text, err := tree.Get(r, f.Path); err != api.OK || text != f.Text {
			t.Errorf("Get(%s): %q, error %d", f.Path, text, err)
		}
	}
	for _, path := range []string{"", "a", "a/", "a/c", "a/c/", "/b", "b/", "b/x", "c", "A", "a//b", "a/b/c/d/e", long(65)} {
		if text, err := tree.Get(r, path); err != api.ErrNone || text != "" {
			t.Errorf("Get(%q): %q, error %d", path, text, err)
		}
	}
	if text, err := tree.Get(api.Repo{}, "a"); err != api.ErrNone || text != "" {
		t.Errorf("Get from none: %q, error %d", text, err)
	}
}

// P7.3: Put.
func TestPut(t *testing.T) {
	big := strings.Repeat("t", 4096)
	base := files("a", "1", "c/d", "2", "e/f/g", "3")
	for _, c := range []struct {
		what       string
		r          api.Repo
		path, text string
		want       api.Repo
		err        api.Errno
	}{
		{"to none", api.Repo{}, "a", "1", files("a", "1"), api.OK},
		{"ahead of all", base, "A", "x", files("A", "x", "a", "1", "c/d", "2", "e/f/g", "3"), api.OK},
		{"between", base, "b/c", "", files("a", "1", "b/c", "", "c/d", "2", "e/f/g", "3"), api.OK},
		{"behind all", base, "f", "x", files("a", "1", "c/d", "2", "e/f/g", "3", "f", "x"), api.OK},
		{"into a folder", base, "c/c", "x", files("a", "1", "c/c", "x", "c/d", "2", "e/f/g", "3"), api.OK},
		{"another text", base, "c/d", "x", files("a", "1", "c/d", "x", "e/f/g", "3"), api.OK},
		{"an empty text", base, "a", "", files("a", "", "c/d", "2", "e/f/g", "3"), api.OK},
		{"the same text", base, "e/f/g", "3", base, api.OK},
		{"the chapter's: below a file", files("a", ""), "a/b.go", "", api.Repo{}, api.ErrRepo},
		{"below a file, deep", base, "a/b/c/d", "", api.Repo{}, api.ErrRepo},
		{"below a file in a folder", base, "e/f/g/h", "", api.Repo{}, api.ErrRepo},
		{"at a folder", base, "c", "", api.Repo{}, api.ErrRepo},
		{"at a folder of folders", base, "e", "", api.Repo{}, api.ErrRepo},
		{"at a folder in a folder", base, "e/f", "", api.Repo{}, api.ErrRepo},
		{"at a folder, another path between", files("a-b", "", "a/b", ""), "a", "", api.Repo{}, api.ErrRepo},
		{"below a file, another path between", files("a", "", "a-b", ""), "a/b", "", api.Repo{}, api.ErrRepo},
		{"beside a file whose name it goes on with", base, "a.go", "", files("a", "1", "a.go", "", "c/d", "2", "e/f/g", "3"), api.OK},
		{"no path", base, "", "", api.Repo{}, api.ErrRepo},
		{"a path that may not be", base, "a//b", "", api.Repo{}, api.ErrRepo},
		{"a path with a slash at the end", base, "b/", "", api.Repo{}, api.ErrRepo},
		{"a path of five names", base, "f/b/c/d/e", "", api.Repo{}, api.ErrRepo},
		{"a path of four names", api.Repo{}, deep(4), "", files(deep(4), ""), api.OK},
		{"a path of MaxPath", api.Repo{}, long(64), "", files(long(64), ""), api.OK},
		{"a path of more than MaxPath", api.Repo{}, long(65), "", api.Repo{}, api.ErrRepo},
		{"a text of MaxText", api.Repo{}, "a", big, files("a", big), api.OK},
		{"a text of more than MaxText", api.Repo{}, "a", big + "t", api.Repo{}, api.ErrRepo},
		{"more than MaxText in the place of a text", files("a", ""), "a", big + "t", api.Repo{}, api.ErrRepo},
		{"the file MaxFiles", many(15, ""), "f15", "", many(16, ""), api.OK},
		{"a file more than MaxFiles", many(16, ""), "f16", "", api.Repo{}, api.ErrRepo},
		{"another text with MaxFiles", many(16, ""), "f00", "", many(16, ""), api.OK},
		{"up to MaxSource", many(3, big), "f03", big, many(4, big), api.OK},
		{"beyond MaxSource", many(4, big), "f04", "t", api.Repo{}, api.ErrRepo},
		{"an empty text at MaxSource", many(4, big), "g", "", api.Repo{Files: append(many(4, big).Files, api.File{Path: "g"})}, api.OK},
		{"another text at MaxSource", many(4, big), "f03", big, many(4, big), api.OK},
	} {
		if got, err := tree.Put(c.r, c.path, c.text); err != c.err || !tree.Same(got, c.want) {
			t.Errorf("%s: %.200v, error %d, want %.200v, %d", c.what, got, err, c.want, c.err)
		}
	}
}

// P7.3: Remove.
func TestRemove(t *testing.T) {
	r := files("a-", "1", "a/b", "2", "a/c/d", "3", "b", "4")
	for i, f := range r.Files {
		want := api.Repo{Files: slices.Delete(slices.Clone(r.Files), i, i+1)}
		if got, err := tree.Remove(r, f.Path); err != api.OK || !tree.Same(got, want) {
			t.Errorf("Remove(%s): %v, error %d", f.Path, got, err)
		}
	}
	if got, err := tree.Remove(files("a", ""), "a"); err != api.OK || len(got.Files) != 0 {
		t.Errorf("Remove of the only file: %v, error %d", got, err)
	}
	for _, path := range []string{"", "a", "a/", "a/c", "/b", "b/", "b/x", "c", "A", "a//b", long(65)} {
		if got, err := tree.Remove(r, path); err != api.ErrNone || got.Files != nil {
			t.Errorf("Remove(%q): %v, error %d", path, got, err)
		}
	}
	if _, err := tree.Remove(api.Repo{}, "a"); err != api.ErrNone {
		t.Errorf("Remove from none: %d", err)
	}
}

// P7.4: Diff, what its Deltas tell.
func TestDiff(t *testing.T) {
	for _, c := range []struct {
		what string
		a, b api.Repo
		want []api.Delta
	}{
		{"none and none", api.Repo{}, api.Repo{}, nil},
		{"the same", files("a", "1", "b", ""), files("a", "1", "b", ""), nil},
		{"one that came", files("a", "1"), files("a", "1", "b", "2"), []api.Delta{{Path: "b", Is: true, New: "2"}}},
		{"an empty one that came", api.Repo{}, files("a", ""), []api.Delta{{Path: "a", Is: true}}},
		{"one that went", files("a", "1", "b", "2"), files("b", "2"), []api.Delta{{Path: "a", Was: true, Old: "1"}}},
		{"an empty one that went", files("a", ""), api.Repo{}, []api.Delta{{Path: "a", Was: true}}},
		{"another text", files("a", "1"), files("a", "2"), []api.Delta{{Path: "a", Was: true, Is: true, Old: "1", New: "2"}}},
		{"an empty text", files("a", "1"), files("a", ""), []api.Delta{{Path: "a", Was: true, Is: true, Old: "1"}}},
		{"a text that was empty", files("a", ""), files("a", "1"), []api.Delta{{Path: "a", Was: true, Is: true, New: "1"}}},
		{"a file that became a folder", files("a", "1"), files("a-", "2", "a/b", "1"),
			[]api.Delta{{Path: "a", Was: true, Old: "1"}, {Path: "a-", Is: true, New: "2"}, {Path: "a/b", Is: true, New: "1"}}},
		{"all at once", files("B", "0", "a", "1", "c", "3", "d/e", "5"), files("A", "0", "a", "2", "c", "3", "d/f", "5"),
			[]api.Delta{{Path: "A", Is: true, New: "0"}, {Path: "B", Was: true, Old: "0"}, {Path: "a", Was: true, Is: true, Old: "1", New: "2"},
				{Path: "d/e", Was: true, Old: "5"}, {Path: "d/f", Is: true, New: "5"}}},
		{"as much as may be", many(16, ""), api.Repo{}, diff(many(16, ""), api.Repo{})},
	} {
		if got, err := tree.Diff(c.a, c.b); err != api.OK || !slices.Equal(got, c.want) {
			t.Errorf("%s: %v, error %d, want %v", c.what, got, err, c.want)
		}
	}
}

// apply puts and removes in a what the Deltas tell. What goes makes way first: a file may become a folder.
func apply(t *testing.T, a api.Repo, list []api.Delta) api.Repo {
	t.Helper()
	err := api.OK
	for _, d := range list {
		if !d.Is && err == api.OK {
			a, err = tree.Remove(a, d.Path)
		}
	}
	for _, d := range list {
		if d.Is && err == api.OK {
			a, err = tree.Put(a, d.Path, d.New)
		}
	}
	if err != api.OK {
		t.Fatalf("what Diff tells can't be put and removed: %d", err)
	}
	return a
}

// partly has some of b's files in the place of a's.
func partly(rnd *rand.Rand, a, b api.Repo) api.Repo {
	m := texts(a)
	for _, d := range diff(a, b) {
		if rnd.Intn(2) == 0 {
			continue
		}
		delete(m, d.Path)
		if d.Is {
			m[d.Path] = d.New
		}
	}
	return repo(m)
}

// P7.4, P7.5: Diff of repositories by chance; what it tells, put and removed in a, is b.
func TestDiffApply(t *testing.T) {
	rnd := rand.New(rand.NewSource(74))
	for range 2000 {
		a, b := anyRepo(rnd), anyRepo(rnd)
		if part := partly(rnd, a, b); mayRepo(part) {
			b = part
		}
		list, err := tree.Diff(a, b)
		if err != api.OK || !slices.Equal(list, diff(a, b)) {
			t.Fatalf("Diff(%v, %v): %v, error %d", a, b, list, err)
		}
		if got := apply(t, a, list); !tree.Same(got, b) {
			t.Fatalf("Diff(%v, %v) in the first: %v", a, b, got)
		}
		if list, err := tree.Diff(a, a); err != api.OK || len(list) != 0 {
			t.Fatalf("Diff of %v with itself: %v, error %d", a, list, err)
		}
	}
}

// roomy is a repository whose list has room behind its end, with something in it.
func roomy(r api.Repo) (api.Repo, []api.File) {
	room := make([]api.File, len(r.Files)+3)
	copy(room, r.Files)
	for i := len(r.Files); i < len(room); i++ {
		room[i] = api.File{Path: "behind", Text: "the end"}
	}
	return api.Repo{Files: room[:len(r.Files)]}, room
}

// R3: what is handed in is not changed, nor the room behind its end, and not kept; what is answered is new.
func TestMemory(t *testing.T) {
	plain := files("a", "1", "c/d", "2", "e/f/g", "3")
	r, room := roomy(plain)
	was := slices.Clone(room)
	heap, root, _ := tree.Split(r)
	put, _ := tree.Put(r, "b", "x")
	last, _ := tree.Put(r, "z", "x")
	over, _ := tree.Put(r, "a", "x")
	same, _ := tree.Put(r, "a", "1")
	gone, _ := tree.Remove(r, "a")
	end, _ := tree.Remove(r, "e/f/g")
	list, _ := tree.Diff(r, put)
	tree.Check(r)
	tree.Get(r, "a")
	if !reflect.DeepEqual(room, was) {
		t.Fatalf("what was handed in has changed: %v", room)
	}
	answers := []api.Repo{put, last, over, same, gone, end}
	want := fmt.Sprint(answers, list, heap, root)
	for i := range room {
		room[i] = api.File{Path: "z", Text: "z"}
	}
	if got := fmt.Sprint(answers, list, heap, root); got != want {
		t.Errorf("what was handed in is kept: %s", got)
	}
	for i := range answers {
		before := fmt.Sprint(answers[i+1:])
		full := answers[i].Files[:cap(answers[i].Files)]
		for j := range full {
			full[j] = api.File{}
		}
		if fmt.Sprint(answers[i+1:]) != before {
			t.Errorf("the answers %d and another one share memory", i)
		}
	}
	if again, err := tree.Load(heap, root); err != api.OK || !tree.Same(again, plain) {
		t.Errorf("Load: %v, error %d", again, err)
	}
}

// R3: objects of a heap share nothing, and files that were loaded nothing with the heap.
func TestHeapMemory(t *testing.T) {
	r := files("a/x", "1", "a/y", "2", "b/x", "1", "b/y", "2", "b/z", "3")
	heap, root, _ := tree.Split(r)
	whole := cloned(heap)
	for i := range heap.List {
		o := heap.List[i].Object
		bytes, list := o.Bytes[:cap(o.Bytes)], o.Entries[:cap(o.Entries)]
		for j := range bytes {
			bytes[j] ^= 255
		}
		for j := range list {
			list[j] = api.Entry{}
		}
		if !sameHeaps(api.Heap{List: heap.List[i+1:]}, api.Heap{List: whole.List[i+1:]}) {
			t.Errorf("object %d shares memory with another one", i)
		}
	}
	if again, againRoot, _ := tree.Split(r); !sameHeaps(again, whole) || againRoot != root {
		t.Errorf("what was answered is kept")
	}
	loaded, _ := tree.Load(whole, root)
	for _, x := range whole.List {
		for j := range x.Object.Bytes {
			x.Object.Bytes[j] = 'z'
		}
		for j := range x.Object.Entries {
			x.Object.Entries[j].Name = "z"
		}
	}
	if !tree.Same(loaded, r) {
		t.Errorf("what was loaded shares memory with the heap: %v", loaded)
	}
}
