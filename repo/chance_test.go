package repo_test

import (
	"fmt"
	"math/rand"
	"slices"
	"strings"
	"testing"

	"shipwright/api"
	"shipwright/lex"
	"shipwright/repo"
	"shipwright/scope"
	"shipwright/tree"
)

// pick is one of several.
func pick[T any](r *rand.Rand, list ...T) T { return list[r.Intn(len(list))] }

// maker makes a repository by chance that scope and types find right, but for rare things.
type maker struct {
	*rand.Rand
	folders []string
	names   int  // how many declarations there are
	back    bool // packages may import those behind them, too
	wrong   int  // one main in so many is wrong
}

// chance is a repository by chance.
func chance(r *rand.Rand) api.Repo {
	m := &maker{Rand: r, back: r.Intn(3) == 0, wrong: pick(r, 2, 30, 30)}
	for _, folder := range []string{"a", "a-b/c", "a.b/c", "a/b", "a/b/main", "b", "main", "main/a", "main/main", "q", "q/main"} {
		if r.Intn(2) == 0 {
			m.folders = append(m.folders, folder)
		}
	}
	r.Shuffle(len(m.folders), func(i, j int) { m.folders[i], m.folders[j] = m.folders[j], m.folders[i] })
	var files []api.File
	for i, folder := range m.folders {
		files = append(files, m.pack(i, folder)...)
	}
	for _, path := range []string{"A", "a/n.md", "a/x.go.txt", "b/.go", "main/main.", "zz.go"} {
		if r.Intn(8) == 0 && len(files) < api.MaxFiles {
			files = append(files, api.File{Path: path, Text: pick(r, "", "#", "package a; import \"b\"", "package main; func main(x int) { }")})
		}
	}
	slices.SortFunc(files, func(a, b api.File) int { return strings.Compare(a.Path, b.Path) })
	return api.Repo{Files: files[:min(len(files), api.MaxFiles)]}
}

// pack are the files of a package, which has so many others ahead of it. Of two imports of one last name a file has the first one. What imports a package main has no function main.
func (m *maker) pack(ahead int, folder string) []api.File {
	var files []api.File
	own := scope.Name(folder)
	begins := pick(m.Rand, 0, 0, 1, 2)
	if own != "main" && m.Intn(2) == 0 {
		begins = -1
	}
	for i, name := range []string{"x.go", "y.go", "z.go"} {
		if i > 0 && m.Intn(3) > 0 {
			continue
		}
		var b strings.Builder
		b.WriteString("package " + own)
		var last []string
		for k, other := range m.folders {
			s := scope.Name(other)
			if k == ahead || k > ahead && (!m.back || m.Intn(3) > 0) || m.Intn(5) > 1 || slices.Contains(last, s) || s == "main" && begins >= 0 {
				continue
			}
			last = append(last, s)
			b.WriteString("; import \"" + other + "\"")
		}
		b.WriteString(m.decls(i == begins))
		files = append(files, api.File{Path: folder + "/" + name, Text: b.String()})
	}
	return files
}

// decls are declarations of a file, a main among them or not.
func (m *maker) decls(begins bool) string {
	var s string
	for range m.Intn(3) {
		m.names++
		n := m.names
		s += "; " + pick(m.Rand,
			fmt.Sprintf("const K%d = 1", n),
			fmt.Sprintf("var v%d int = -1", n),
			fmt.Sprintf("type T%d struct { main int; x string }; func (r T%d) f(x int) { r.main = x }", n, n),
			fmt.Sprintf("type T%d struct { }; func (main T%d) main(x int) int { return x }", n, n),
			fmt.Sprintf("func f%d(main int) int { var v int = main; w := v; return w }", n))
	}
	if begins && m.Intn(4) > 0 {
		one := pick(m.Rand, "main() { }", "main() { { return }; { } }", "main() { println(1) }")
		if m.Intn(m.wrong) == 0 {
			one = pick(m.Rand, "main(x int) { }", "main() int { return 1 }", "main(x int, y bool) string { return \"\" }")
		}
		s += "; func " + one
	}
	if m.Intn(150) == 0 {
		s += pick(m.Rand, "; var v int = q", "; var v int = true", "; func f() int { }", "; 1")
	}
	return s
}

// loose is a text with other blanks, comments and ends between its tokens, and where each token has come to stand: by where it stood.
func loose(t *testing.T, r *rand.Rand, text string) (string, map[int]int) {
	t.Helper()
	l, spot := lex.Lex(text)
	if spot.Err != api.OK {
		t.Fatalf("Lex(%q): %v", text, spot)
	}
	var b strings.Builder
	to := map[int]int{}
	free := true // a line may end here, and that is no end
	for _, one := range l {
		for range r.Intn(3) {
			s := pick(r, " ", "\t", "\r ")
			if free {
				s = pick(r, s, "\n", "// import \"q\"\n", " //\n\n")
			}
			b.WriteString(s)
		}
		b.WriteString(" ")
		to[one.At] = b.Len()
		switch {
		case one.Kind != api.TokEnd:
			b.WriteString(one.Text)
		case r.Intn(2) == 0:
			b.WriteString(";")
		default:
			b.WriteString(pick(r, "\n", "// func main(x int)\n"))
		}
		free = one.Kind == api.TokEnd || one.Kind == api.TokSign && !strings.Contains(")]}", one.Text)
	}
	return b.String(), to
}

// checkLoose is P15.4: with other blanks and comments, and without the files that are not the language's, or with others, all is as it was, but for places.
func checkLoose(t *testing.T, r *rand.Rand, old api.Repo, w api.Whole, e api.Place) {
	t.Helper()
	var again api.Repo
	moved := make([]map[int]int, len(old.Files))
	put := func(path, text string) {
		var err api.Errno
		if again, err = tree.Put(again, path, text); err != api.OK {
			t.Fatalf("Put(%q, %q, %q): %d", again.Files, path, text, err)
		}
	}
	for i, f := range old.Files {
		if _, ok := wantFolder(f.Path); ok {
			f.Text, moved[i] = loose(t, r, f.Text)
			put(f.Path, f.Text)
		}
	}
	for _, path := range []string{"0", "a/m.md", "b/.go", "main/x", "mm.go"} {
		if r.Intn(3) == 0 && len(again.Files) < api.MaxFiles {
			put(path, pick(r, "", "#", "package a; import \"main\""))
		}
	}
	at := func(file int) int { // where a file has come to stand
		return slices.IndexFunc(again.Files, func(f api.File) bool { return f.Path == old.Files[file].Path })
	}
	v, place := check(t, again)
	want := e
	if e.Err != api.OK {
		want.File, want.At = at(e.File), moved[e.File][e.At]
	}
	if place != want {
		t.Fatalf("Check(%q): %v, with other blanks, %q: %v, want %v", old.Files, e, again.Files, place, want)
	}
	if !slices.Equal(repo.Mains(v), repo.Mains(w)) || !slices.Equal(repo.Packages(v), repo.Packages(w)) {
		t.Fatalf("%q, with other blanks, %q: %q, %q", old.Files, again.Files, repo.Mains(v), repo.Packages(v))
	}
	for _, from := range repo.Packages(w) {
		if !slices.Equal(repo.Imports(v, from), repo.Imports(w, from)) {
			t.Fatalf("%q, with other blanks, %q: %q imports %q", old.Files, again.Files, from, repo.Imports(v, from))
		}
		for _, to := range repo.Packages(w) {
			if repo.Reaches(v, from, to) != repo.Reaches(w, from, to) {
				t.Fatalf("%q, with other blanks, %q: from %q to %q", old.Files, again.Files, from, to)
			}
		}
	}
	for u, one := range wantOf(w.Program) {
		u.File = at(u.File)
		if folder, name := repo.Of(v, u); folder != one[0] || name != one[1] {
			t.Fatalf("%q, with other blanks, %q: %v is of %q, %q", old.Files, again.Files, u, folder, name)
		}
	}
}

// P15.1 to P15.4, on repositories by chance.
func TestChance(t *testing.T) {
	r := rand.New(rand.NewSource(15))
	errs, mains, reaches := map[api.Errno]int{}, map[int]int{}, 0
	for range 1500 {
		old := chance(r)
		w, e := check(t, old)
		errs[e.Err]++
		checkLoose(t, r, old, w, e)
		if e.Err == api.OK {
			mains[len(repo.Mains(w))]++
			reaches += len(wantReach(old))
		}
	}
	for _, err := range []api.Errno{api.OK, api.ErrCircle, api.ErrMain} {
		if errs[err] < 150 {
			t.Errorf("error %d was met %d times: too seldom", err, errs[err])
		}
	}
	for _, err := range []api.Errno{api.ErrParse, api.ErrUnknown, api.ErrType, api.ErrReturn} {
		if errs[err] < 3 {
			t.Errorf("error %d was met %d times: too seldom", err, errs[err])
		}
	}
	for n := range 4 {
		if mains[n] < 20 {
			t.Errorf("%d mains were met %d times: too seldom", n, mains[n])
		}
	}
	if reaches < 5000 {
		t.Errorf("there were %d pairs of packages of which the one reaches the other", reaches)
	}
	t.Log(errs, mains, reaches)
}
