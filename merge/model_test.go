package merge_test

import (
	"fmt"
	"math/rand"
	"sort"
	"strings"

	"shipwright/api"
)

// What a repository is, what stands at a path, merged or not, and what each call has to answer is said here anew from the chapters' words, so that the tests do not lean on what they test.

const nameSigns = "abcdefghijklmnopqrstuvwxyzABCDEFGHIJKLMNOPQRSTUVWXYZ0123456789._-"

func mayName(s string) bool {
	for i := 0; i < len(s); i++ {
		if strings.IndexByte(nameSigns, s[i]) < 0 {
			return false
		}
	}
	return len(s) >= 1 && len(s) <= 24 && s != "." && s != ".."
}

func mayPath(s string) bool {
	list := strings.Split(s, "/")
	for _, name := range list {
		if !mayName(name) {
			return false
		}
	}
	return len(list) <= 4 && len(s) <= 64
}

func mayRepo(r api.Repo) bool {
	sum := 0
	for i, f := range r.Files {
		if !mayPath(f.Path) || len(f.Text) > 4096 {
			return false
		}
		if i > 0 && strings.Compare(r.Files[i-1].Path, f.Path) >= 0 {
			return false
		}
		for _, g := range r.Files {
			if strings.HasPrefix(g.Path, f.Path+"/") {
				return false
			}
		}
		sum += len(f.Text)
	}
	return len(r.Files) <= 16 && sum <= 16384
}

// repo has these texts at these paths.
func repo(texts map[string]string) api.Repo {
	var r api.Repo
	for path, text := range texts {
		r.Files = append(r.Files, api.File{Path: path, Text: text})
	}
	sort.Slice(r.Files, func(i, j int) bool { return r.Files[i].Path < r.Files[j].Path })
	return r
}

// texts is the other way round.
func texts(r api.Repo) map[string]string {
	m := map[string]string{}
	for _, f := range r.Files {
		m[f.Path] = f.Text
	}
	return m
}

// stands is what stands at a path: no two texts, and no text and nothing, are told by the same words.
func stands(r api.Repo, path string) string {
	if text, ok := texts(r)[path]; ok {
		return "text " + text
	}
	return "nothing"
}

// allPaths are the paths of repositories, rising, each once.
func allPaths(list ...api.Repo) []string {
	m := map[string]string{}
	for _, r := range list {
		for _, f := range r.Files {
			m[f.Path] = ""
		}
	}
	var paths []string
	for path := range m {
		paths = append(paths, path)
	}
	sort.Strings(paths)
	return paths
}

// together is the texts that stand there, merged, and the clashes.
func together(base, ours, theirs api.Repo) (map[string]string, []api.Clash) {
	m := map[string]string{}
	var list []api.Clash
	for _, path := range allPaths(base, ours, theirs) {
		from := ours
		switch b, o, t := stands(base, path), stands(ours, path), stands(theirs, path); {
		case o == b:
			from = theirs
		case t == b || t == o:
		default:
			c := api.Clash{Path: path}
			c.Base, c.InBase = texts(base)[path], b != "nothing"
			c.Ours, c.InOurs = texts(ours)[path], o != "nothing"
			c.Theirs, c.InTheirs = texts(theirs)[path], t != "nothing"
			list = append(list, c)
			continue
		}
		if text, ok := texts(from)[path]; ok {
			m[path] = text
		}
	}
	return m, list
}

// wantMerge is what Merge has to answer.
func wantMerge(base, ours, theirs api.Repo) (api.Repo, []api.Clash, api.Errno) {
	if !mayRepo(base) || !mayRepo(ours) || !mayRepo(theirs) {
		return api.Repo{}, nil, api.ErrRepo
	}
	m, list := together(base, ours, theirs)
	if len(list) > 0 {
		return api.Repo{}, list, api.OK
	}
	if !mayRepo(repo(m)) {
		return api.Repo{}, nil, api.ErrFull
	}
	return repo(m), nil, api.OK
}

// wantSettle is what Settle has to answer.
func wantSettle(base, ours, theirs api.Repo, choice []api.File) (api.Repo, api.Errno) {
	if !mayRepo(base) || !mayRepo(ours) || !mayRepo(theirs) {
		return api.Repo{}, api.ErrRepo
	}
	for i := range choice {
		if i > 0 && strings.Compare(choice[i-1].Path, choice[i].Path) >= 0 {
			return api.Repo{}, api.ErrArg
		}
	}
	m, list := together(base, ours, theirs)
	open := map[string]bool{}
	for _, c := range list {
		open[c.Path] = true
	}
	for _, f := range choice {
		if !open[f.Path] {
			return api.Repo{}, api.ErrNone
		}
		delete(open, f.Path)
		m[f.Path] = f.Text
	}
	if len(open) > 0 {
		return api.Repo{}, api.ErrNone
	}
	if !mayRepo(repo(m)) {
		return api.Repo{}, api.ErrFull
	}
	return repo(m), api.OK
}

// wantChanged is what Changed has to answer to two repositories.
func wantChanged(a, b api.Repo) []string {
	var list []string
	for _, path := range allPaths(a, b) {
		if stands(a, path) != stands(b, path) {
			list = append(list, path)
		}
	}
	return list
}

// clashPaths are the paths of clashes.
func clashPaths(list []api.Clash) []string {
	var paths []string
	for _, c := range list {
		paths = append(paths, c.Path)
	}
	return paths
}

// files is a repository of paths and texts by turns, in the order in which they are given.
func files(list ...string) api.Repo {
	var r api.Repo
	for i := 0; i < len(list); i += 2 {
		r.Files = append(r.Files, api.File{Path: list[i], Text: list[i+1]})
	}
	return r
}

// many are files from one number to another one (not among them), with one text.
func many(from, to int, text string) api.Repo {
	var r api.Repo
	for i := from; i < to; i++ {
		r.Files = append(r.Files, api.File{Path: fmt.Sprintf("f%02d", i), Text: text})
	}
	return r
}

// plus is a repository with further files, or with others in the place of its own.
func plus(r api.Repo, more ...string) api.Repo {
	m := texts(r)
	for _, f := range files(more...).Files {
		m[f.Path] = f.Text
	}
	return repo(m)
}

// anyPath takes from few paths, so that they meet; the slash stands behind - and . and ahead of letters.
func anyPath(rnd *rand.Rand) string {
	list := []string{"a", "a-", "a.go", "a/b", "a/b/c", "ab", "b", "B", "b/x", "c", "c/d/e/f", "d", "e", "f", "g", "h", "i", "j", "k", "l"}
	return list[rnd.Intn(len(list))]
}

// changed is a repository with up to n files that came, went or have another text, by chance.
func changed(rnd *rand.Rand, r api.Repo, n int) api.Repo {
	for k := rnd.Intn(n + 1); k > 0; k-- {
		m := texts(r)
		path := anyPath(rnd)
		if rnd.Intn(3) == 0 {
			delete(m, path)
		} else {
			m[path] = []string{"", "1", "2", strings.Repeat("x", 4096)}[rnd.Intn(4)]
		}
		if next := repo(m); mayRepo(next) {
			r = next
		}
	}
	return r
}

// anyThree is a base, and two repositories that came of it, by chance.
func anyThree(rnd *rand.Rand) (base, ours, theirs api.Repo) {
	base = changed(rnd, api.Repo{}, 24)
	n := 1 + rnd.Intn(20)
	return base, changed(rnd, base, n), changed(rnd, base, n)
}
