package merge_test

import (
	"fmt"
	"math/rand"
	"reflect"
	"slices"
	"strings"
	"testing"

	"shipwright/api"
	"shipwright/merge"
	"shipwright/tree"
)

var big = strings.Repeat("t", 4096)

// check holds what Merge and Clashes answer against what they have to, and tells what Merge has answered.
func check(t *testing.T, what string, base, ours, theirs api.Repo) (api.Repo, []api.Clash, api.Errno) {
	t.Helper()
	r, list, err := merge.Merge(base, ours, theirs)
	want, wantList, wantErr := wantMerge(base, ours, theirs)
	if err != wantErr || !tree.Same(r, want) || !slices.Equal(list, wantList) {
		t.Fatalf("%s: Merge(%.300v, %.300v, %.300v): %.300v, %v, error %d, want %.300v, %v, %d", what, base, ours, theirs, r, list, err, want, wantList, wantErr)
	}
	if wantErr == api.ErrFull {
		wantErr = api.OK // Clashes makes nothing of the files
	}
	paths, pathsErr := merge.Clashes(base, ours, theirs)
	if pathsErr != wantErr || !slices.Equal(paths, clashPaths(wantList)) {
		t.Fatalf("%s: Clashes(%.300v, %.300v, %.300v): %v, error %d, want those of %v", what, base, ours, theirs, paths, pathsErr, wantList)
	}
	return r, list, err
}

// P8.1 to P8.3: the chapter's examples.
func TestExamples(t *testing.T) {
	base, ours, theirs := files("a", "1", "b", "2"), files("a", "1", "b", "3"), files("a", "4", "b", "2", "c", "5")
	if r, list, err := merge.Merge(base, ours, theirs); err != api.OK || len(list) != 0 || !tree.Same(r, files("a", "4", "b", "3", "c", "5")) {
		t.Errorf("Merge: %v, %v, error %d", r, list, err)
	}
	if list, err := merge.Changed(base, theirs); err != api.OK || !slices.Equal(list, []string{"a", "c"}) {
		t.Errorf("Changed: %v, error %d", list, err)
	}
	theirs = files("a", "4", "c", "5")
	if list, err := merge.Clashes(base, ours, theirs); err != api.OK || !slices.Equal(list, []string{"b"}) {
		t.Errorf("Clashes: %v, error %d", list, err)
	}
	want := []api.Clash{{Path: "b", Base: "2", Ours: "3", Theirs: "", InBase: true, InOurs: true, InTheirs: false}}
	if r, list, err := merge.Merge(base, ours, theirs); err != api.OK || r.Files != nil || !slices.Equal(list, want) {
		t.Errorf("Merge with a clash: %v, %v, error %d", r, list, err)
	}
	if r, err := merge.Settle(base, ours, theirs, files("b", "6").Files); err != api.OK || !tree.Same(r, files("a", "4", "b", "6", "c", "5")) {
		t.Errorf("Settle: %v, error %d", r, err)
	}
	for _, choice := range [][]api.File{nil, {}, files("c", "6").Files} {
		if r, err := merge.Settle(base, ours, theirs, choice); err != api.ErrNone || r.Files != nil {
			t.Errorf("Settle with %v: %v, error %d", choice, r, err)
		}
	}
}

// at is a repository with that at the path: nothing, if it is a minus; and files ahead and behind that stay.
func at(path, text string) api.Repo {
	r := files("A", "ahead", "z", "behind")
	if text == "-" {
		return r
	}
	return plus(r, path, text)
}

// P8.1: one path in every way in which it can stand in the three, written out: what stands there merged, or a clash (!).
func TestOnePath(t *testing.T) {
	ways := []string{"-", "", "1", "2", "3"}
	clashes := 0
	for _, b := range ways {
		for _, o := range ways {
			for _, h := range ways {
				base, ours, theirs := at("m", b), at("m", o), at("m", h)
				r, list, err := check(t, fmt.Sprintf("%q, %q, %q", b, o, h), base, ours, theirs)
				var want string
				switch {
				case b == o:
					want = h
				case b == h, o == h:
					want = o
				default:
					clashes++
					c := api.Clash{Path: "m", Base: strings.Trim(b, "-"), Ours: strings.Trim(o, "-"), Theirs: strings.Trim(h, "-"), InBase: b != "-", InOurs: o != "-", InTheirs: h != "-"}
					if err != api.OK || r.Files != nil || !slices.Equal(list, []api.Clash{c}) {
						t.Errorf("%q, %q, %q: %v, %v, error %d, want the clash %v", b, o, h, r, list, err, c)
					}
					settleOne(t, base, ours, theirs)
					continue
				}
				if err != api.OK || len(list) != 0 || !tree.Same(r, at("m", want)) {
					t.Errorf("%q, %q, %q: %v, %v, error %d, want %q", b, o, h, r, list, err, want)
				}
				if r, err := merge.Settle(base, ours, theirs, nil); err != api.OK || !tree.Same(r, at("m", want)) {
					t.Errorf("%q, %q, %q: Settle with nothing: %v, error %d", b, o, h, r, err)
				}
				if r, err := merge.Settle(base, ours, theirs, files("m", "1").Files); err != api.ErrNone || r.Files != nil {
					t.Errorf("%q, %q, %q: Settle of what does not clash: %v, error %d", b, o, h, r, err)
				}
			}
		}
	}
	if clashes != 5*4*3 { // all three unlike
		t.Errorf("%d clashes", clashes)
	}
}

// settleOne settles the clash at m with every text, an empty one among them, and does not with none.
func settleOne(t *testing.T, base, ours, theirs api.Repo) {
	t.Helper()
	for _, text := range []string{"", "1", "2", "3", "4"} {
		if r, err := merge.Settle(base, ours, theirs, files("m", text).Files); err != api.OK || !tree.Same(r, at("m", text)) {
			t.Errorf("Settle(%v, %v, %v) with %q: %v, error %d", base, ours, theirs, text, r, err)
		}
	}
	if r, err := merge.Settle(base, ours, theirs, nil); err != api.ErrNone || r.Files != nil {
		t.Errorf("Settle(%v, %v, %v) with nothing: %v, error %d", base, ours, theirs, r, err)
	}
}

// P8.1: the shortest ways, with no other file about.
func TestNothing(t *testing.T) {
	none, empty := api.Repo{}, files("a", "")
	for _, c := range []struct {
		what               string
		base, ours, theirs api.Repo
		want               api.Repo
		clash              []api.Clash
	}{
		{"nothing at all", none, none, none, none, nil},
		{"empty lists", api.Repo{Files: []api.File{}}, none, api.Repo{Files: []api.File{}}, none, nil},
		{"an empty text that came in ours", none, empty, none, empty, nil},
		{"an empty text that came in theirs", none, none, empty, empty, nil},
		{"an empty text that came in both", none, empty, empty, empty, nil},
		{"an empty text that went in ours", empty, none, empty, none, nil},
		{"an empty text that went in theirs", empty, empty, none, none, nil},
		{"an empty text that went in both", empty, none, none, none, nil},
		{"an empty text and another one that came", none, empty, files("a", "1"), none, []api.Clash{{Path: "a", Theirs: "1", InOurs: true, InTheirs: true}}},
		{"an empty text, where one went", files("a", "1"), none, empty, none, []api.Clash{{Path: "a", Base: "1", InBase: true, InTheirs: true}}},
		{"an empty text that went, and became another one", empty, none, files("a", "1"), none, []api.Clash{{Path: "a", Theirs: "1", InBase: true, InTheirs: true}}},
	} {
		r, list, err := check(t, c.what, c.base, c.ours, c.theirs)
		if err != api.OK || !tree.Same(r, c.want) || !slices.Equal(list, c.clash) {
			t.Errorf("%s: %v, %v, error %d, want %v, %v", c.what, r, list, err, c.want, c.clash)
		}
	}
}

// P8.1: several paths clash, and rise byte by byte; what does not clash is not told.
func TestSeveral(t *testing.T) {
	base := files("A", "1", "a-", "1", "a/b", "1", "c", "1", "d", "1")
	ours := files("A", "2", "B", "2", "a-", "2", "a.go", "2", "a/b", "2", "c", "2", "d", "1")
	theirs := files("A", "3", "B", "3", "a.go", "3", "a/b", "3", "c", "1", "d", "3", "e", "3")
	want := []api.Clash{
		{Path: "A", Base: "1", Ours: "2", Theirs: "3", InBase: true, InOurs: true, InTheirs: true},
		{Path: "B", Ours: "2", Theirs: "3", InOurs: true, InTheirs: true},
		{Path: "a-", Base: "1", Ours: "2", InBase: true, InOurs: true},
		{Path: "a.go", Ours: "2", Theirs: "3", InOurs: true, InTheirs: true},
		{Path: "a/b", Base: "1", Ours: "2", Theirs: "3", InBase: true, InOurs: true, InTheirs: true},
	}
	if _, list, err := check(t, "several", base, ours, theirs); err != api.OK || !slices.Equal(list, want) {
		t.Errorf("%v, error %d", list, err)
	}
	choice := files("A", "4", "B", "5", "a-", "", "a.go", "7", "a/b", "8")
	if r, err := merge.Settle(base, ours, theirs, choice.Files); err != api.OK || !tree.Same(r, plus(choice, "c", "2", "d", "3", "e", "3")) {
		t.Errorf("Settle: %v, error %d", r, err)
	}
	for i := range choice.Files {
		part := slices.Delete(slices.Clone(choice.Files), i, i+1)
		if r, err := merge.Settle(base, ours, theirs, part); err != api.ErrNone || r.Files != nil {
			t.Errorf("Settle without %s: %v, error %d", choice.Files[i].Path, r, err)
		}
		part = slices.Insert(part, i, api.File{Path: choice.Files[i].Path + "0"})
		if r, err := merge.Settle(base, ours, theirs, part); err != api.ErrNone || r.Files != nil {
			t.Errorf("Settle with another path than %s: %v, error %d", choice.Files[i].Path, r, err)
		}
	}
	three := [3]api.Repo{many(0, 16, "1"), many(0, 16, "2"), many(0, 16, "3")}
	if _, list, err := check(t, "all of them", three[0], three[1], three[2]); err != api.OK || len(list) != 16 {
		t.Errorf("all of them: %v, error %d", list, err)
	}
}

// wrong are repositories that may not be.
func wrong() map[string]api.Repo {
	return map[string]api.Repo{
		"paths that fall":           files("b", "", "a", ""),
		"a path twice":              files("a", "", "a", ""),
		"no path":                   files("", ""),
		"a path that may not be":    files("a//b", ""),
		"a path of five names":      files("a/b/c/d/e", ""),
		"a file that is a folder":   files("a", "", "a-b", "", "a/b", ""),
		"too many files":            many(0, 17, ""),
		"a text that is too long":   files("a", big+"t"),
		"texts too long together":   plus(many(0, 4, big), "g", "t"),
		"a path that is too long":   files(strings.Repeat("a", 24)+"/"+strings.Repeat("b", 24)+"/"+strings.Repeat("c", 15), ""),
		"a name that is too long":   files(strings.Repeat("a", 25), ""),
		"falling, beyond MaxFiles":  {Files: append(files("z", "").Files, many(0, 40, "").Files...)},
		"a slash at the path's end": files("a/", ""),
	}
}

// P8.1 to P8.3: ErrRepo is ahead of all else, whichever of them may not be.
func TestWrongRepos(t *testing.T) {
	fine, other := files("a", "1", "b", "1"), files("a", "2", "b", "2")
	falling, far, unlike := files("b", "", "a", "").Files, files("x", "").Files, files("a", "", "b", big+"t").Files
	for what, bad := range wrong() {
		for i, three := range [][3]api.Repo{{bad, fine, other}, {fine, bad, other}, {fine, other, bad}, {bad, bad, bad}, {fine, bad, bad}, {bad, fine, fine}, {fine, bad, fine}, {fine, fine, bad}} {
			if r, list, err := check(t, what, three[0], three[1], three[2]); err != api.ErrRepo || r.Files != nil || list != nil {
				t.Errorf("%s, %d: Merge: %v, %v, error %d", what, i, r, list, err)
			}
			if list, err := merge.Clashes(three[0], three[1], three[2]); err != api.ErrRepo || list != nil {
				t.Errorf("%s, %d: Clashes: %v, error %d", what, i, list, err)
			}
			for _, choice := range [][]api.File{nil, falling, far, unlike, files("a", "", "a", "").Files} {
				if r, err := merge.Settle(three[0], three[1], three[2], choice); err != api.ErrRepo || r.Files != nil {
					t.Errorf("%s, %d: Settle: %v, error %d", what, i, r, err)
				}
			}
		}
		for i, two := range [][2]api.Repo{{bad, fine}, {fine, bad}, {bad, bad}, {bad, {}}, {{}, bad}} {
			if list, err := merge.Changed(two[0], two[1]); err != api.ErrRepo || list != nil {
				t.Errorf("%s, %d: Changed: %v, error %d", what, i, list, err)
			}
		}
	}
}

// full are three that do not clash, and of which no repository comes, or just one.
func full() []struct {
	what               string
	base, ours, theirs api.Repo
	err                api.Errno
} {
	none := api.Repo{}
	return []struct {
		what               string
		base, ours, theirs api.Repo
		err                api.Errno
	}{
		{"MaxFiles", none, many(0, 8, ""), many(8, 16, ""), api.OK},
		{"one file more", none, many(0, 8, ""), many(8, 17, ""), api.ErrFull},
		{"twice MaxFiles", none, many(0, 16, ""), many(16, 32, ""), api.ErrFull},
		{"MaxFiles of a base", many(0, 14, ""), many(0, 15, ""), plus(many(0, 14, ""), "g", ""), api.OK},
		{"one file more than a base's MaxFiles", many(0, 15, ""), many(0, 16, ""), plus(many(0, 15, ""), "g", ""), api.ErrFull},
		{"MaxFiles, as many gone as come", many(0, 16, ""), many(1, 16, ""), plus(many(0, 15, ""), "g", ""), api.OK},
		{"MaxFiles, two gone and three come", many(0, 16, ""), plus(many(1, 16, ""), "h", ""), plus(many(0, 15, ""), "g", ""), api.OK},
		{"the same files come in both", none, many(0, 16, "1"), many(0, 16, "1"), api.OK},
		{"MaxSource", none, many(0, 2, big), many(2, 4, big), api.OK},
		{"one byte more", none, plus(many(0, 2, big), "a", "t"), many(2, 4, big), api.ErrFull},
		{"no byte more", none, plus(many(0, 2, big), "a", ""), many(2, 4, big), api.OK},
		{"twice MaxSource", none, many(0, 4, big), many(4, 8, big), api.ErrFull},
		{"MaxSource, by texts that grow", many(0, 8, big[:2048]), plus(many(0, 8, big[:2048]), "f00", big[:1024], "f01", big[:3072]), plus(many(0, 8, big[:2048]), "f02", big[:1], "f03", big[:4095]), api.OK},
		{"one byte more, by texts that grow", many(0, 8, big[:2040]), plus(many(0, 8, big[:2040]), "f00", big[:2072]), plus(many(0, 8, big[:2040]), "f03", big[:2073]), api.ErrFull},
		{"a file and a folder", none, files("c", ""), files("c/d", ""), api.ErrFull},
		{"a folder and a file", none, files("c/d", ""), files("c", ""), api.ErrFull},
		{"a file and a folder, others between", none, files("c", "", "c-", "", "c.go", ""), files("c-d", "", "c/d", ""), api.ErrFull},
		{"a file and a folder, deep", files("a/b/x", ""), files("a/b/c", "", "a/b/x", ""), files("a/b/c/d", "", "a/b/x", ""), api.ErrFull},
		{"a file, and a folder of folders", none, files("c", ""), files("c/d/e/f", ""), api.ErrFull},
		{"a file that became a folder", files("c", "1"), files("c/d", "1"), files("c", "1", "e", ""), api.OK},
		{"a folder that became a file", files("c/d", "1"), files("c/d", "1", "e", ""), files("c", "1"), api.OK},
		{"a folder that became a file, and one more in the folder", files("c/d", "1"), files("c/d", "1", "c/e", ""), files("c", "1"), api.ErrFull},
		{"names that only begin alike", none, files("c", "", "cc", ""), files("c-/d", "", "cd/e", ""), api.OK},
	}
}

// P8.1: ErrFull; where a path clashes besides, the clash is told.
func TestFull(t *testing.T) {
	besides := 0
	for _, c := range full() {
		if r, list, err := merge.Merge(c.base, c.ours, c.theirs); err != c.err || list != nil || err != api.OK && r.Files != nil {
			t.Errorf("%s: %.200v, %v, error %d, want %d", c.what, r, list, err, c.err)
		}
		check(t, c.what, c.base, c.ours, c.theirs)
		check(t, c.what+", changed about", c.base, c.theirs, c.ours)
		if r, err := merge.Settle(c.base, c.ours, c.theirs, nil); err != c.err || err != api.OK && r.Files != nil {
			t.Errorf("%s: Settle: %.200v, error %d, want %d", c.what, r, err, c.err)
		}
		ours, theirs := plus(c.ours, "x", ""), plus(c.theirs, "x", "1")
		if !mayRepo(ours) || !mayRepo(theirs) {
			continue // no room for one more
		}
		if c.err == api.ErrFull {
			besides++
		}
		r, list, err := check(t, c.what+", and a clash", c.base, ours, theirs)
		if err != api.OK || r.Files != nil || !slices.Equal(list, []api.Clash{{Path: "x", Theirs: "1", InOurs: true, InTheirs: true}}) {
			t.Errorf("%s, and a clash: %.200v, %v, error %d", c.what, r, list, err)
		}
	}
	if besides < 8 {
		t.Errorf("%d with a clash besides ErrFull", besides)
	}
}

// P8.2: Settle; which error is told where two could be.
func TestSettle(t *testing.T) {
	base, ours, theirs := files("a", "1", "b", "2", "c", "3"), files("a", "1", "b", "3", "c", "4"), files("a", "4", "b", "4")
	done := func(b, c string) api.Repo { return files("a", "4", "b", b, "c", c) }
	for _, c := range []struct {
		what   string
		choice api.Repo
		want   api.Repo
		err    api.Errno
	}{
		{"both", files("b", "5", "c", "6"), done("5", "6"), api.OK},
		{"both as they stood", files("b", "2", "c", "3"), done("2", "3"), api.OK},
		{"both as ours", files("b", "3", "c", "4"), done("3", "4"), api.OK},
		{"empty texts", files("b", "", "c", ""), done("", ""), api.OK},
		{"as long as may be", files("b", big, "c", big), done(big, big), api.OK},
		{"nothing", api.Repo{}, api.Repo{}, api.ErrNone},
		{"the first one alone", files("b", "5"), api.Repo{}, api.ErrNone},
		{"the last one alone", files("c", "5"), api.Repo{}, api.ErrNone},
		{"one that does not clash, ahead", files("a", "4", "b", "5", "c", "6"), api.Repo{}, api.ErrNone},
		{"one that is not there, behind", files("b", "5", "c", "6", "d", ""), api.Repo{}, api.ErrNone},
		{"one that is not there, between", files("b", "5", "b.go", "", "c", "6"), api.Repo{}, api.ErrNone},
		{"another one in the place of one", files("a", "4", "c", "6"), api.Repo{}, api.ErrNone},
		{"falling", files("c", "6", "b", "5"), api.Repo{}, api.ErrArg},
		{"the first one twice", files("b", "5", "b", "5", "c", "6"), api.Repo{}, api.ErrArg},
		{"the last one twice", files("b", "5", "c", "6", "c", "7"), api.Repo{}, api.ErrArg},
		{"one twice, not side by side", files("b", "5", "c", "6", "b", "5"), api.Repo{}, api.ErrArg},
		{"falling only at the end", files("b", "5", "c", "6", "d", "", "a", ""), api.Repo{}, api.ErrArg},
		{"no path", files("", ""), api.Repo{}, api.ErrNone},
		{"no path ahead of both", files("", "", "b", "5", "c", "6"), api.Repo{}, api.ErrNone},
		{"a path that may not be", files("b", "5", "c", "6", "d//e", ""), api.Repo{}, api.ErrNone},
		{"a path below one that clashes", files("b", "5", "b/x", "", "c", "6"), api.Repo{}, api.ErrNone},
		{"a text that may not be", files("b", "5", "c", big+"t"), api.Repo{}, api.ErrFull},
		{"the first one's text that may not be", files("b", big+"t", "c", "6"), api.Repo{}, api.ErrFull},
		{"ErrArg ahead of ErrNone", files("y", "", "x", ""), api.Repo{}, api.ErrArg},
		{"ErrArg ahead of ErrNone: one twice, one missing", files("b", "5", "b", "5"), api.Repo{}, api.ErrArg},
		{"ErrArg ahead of ErrFull", files("c", big+"t", "b", "5"), api.Repo{}, api.ErrArg},
		{"ErrNone ahead of ErrFull: one missing", files("b", big+"t"), api.Repo{}, api.ErrNone},
		{"ErrNone ahead of ErrFull: one too many", files("b", "5", "c", "6", "d", big+"t"), api.Repo{}, api.ErrNone},
		{"very many", many(0, 99, ""), api.Repo{}, api.ErrNone},
	} {
		r, err := merge.Settle(base, ours, theirs, c.choice.Files)
		if err != c.err || !tree.Same(r, c.want) || err != api.OK && r.Files != nil {
			t.Errorf("%s: %.200v, error %d, want %.200v, %d", c.what, r, err, c.want, c.err)
		}
		if r, err := wantSettle(base, ours, theirs, c.choice.Files); err != c.err || !tree.Same(r, c.want) {
			t.Errorf("%s: the model has %.200v, error %d", c.what, r, err)
		}
	}
	if r, err := merge.Settle(base, base, base, files("b", "", "a", "").Files); err != api.ErrArg || r.Files != nil {
		t.Errorf("falling, where nothing clashes: %v, error %d", r, err)
	}
}

// P8.2: Settle that makes too much of it, and just enough.
func TestSettleFull(t *testing.T) {
	for _, c := range []struct {
		what               string
		base, ours, theirs api.Repo
		choice             api.Repo
		err                api.Errno
	}{
		{"MaxFiles", files("z", ""), many(0, 15, ""), files("z", "1"), files("z", "2"), api.OK},
		{"one file more", files("z", ""), many(0, 16, ""), files("z", "1"), files("z", "2"), api.ErrFull},
		{"ErrNone ahead of one file more", files("z", ""), many(0, 16, ""), files("z", "1"), files("y", "2"), api.ErrNone},
		{"ErrArg ahead of one file more", files("z", ""), many(0, 16, ""), files("z", "1"), files("z", "2", "z", "2"), api.ErrArg},
		{"MaxSource", files("z", ""), plus(many(0, 3, big), "z", "1"), files("z", "2"), files("z", big), api.OK},
		{"one byte more", files("z", ""), plus(many(0, 3, big), "z", "1"), files("a", "t", "z", "2"), files("z", big), api.ErrFull},
		{"as much as before", files("z", ""), plus(many(0, 3, big), "z", "1"), files("a", "t", "z", "2"), files("z", big[1:]), api.OK},
		{"a folder's path", files("c", "1"), files("c/d", ""), files("c", "2"), files("c", "3"), api.ErrFull},
		{"a folder's path, others between", files("c", "1"), files("c-", "", "c.go", "", "c/d", ""), files("c", "2"), files("c", "3"), api.ErrFull},
		{"a path in what became a file", files("c/d", "1"), files("c", ""), files("c/d", "2"), files("c/d", "3"), api.ErrFull},
		{"a path beside what became a file", files("c/d", "1"), files("c-", ""), files("c/d", "2"), files("c/d", "3"), api.OK},
	} {
		r, err := merge.Settle(c.base, c.ours, c.theirs, c.choice.Files)
		want, wantErr := wantSettle(c.base, c.ours, c.theirs, c.choice.Files)
		if err != c.err || wantErr != c.err || !tree.Same(r, want) || err != api.OK && r.Files != nil {
			t.Errorf("%s: %.200v, error %d, want %.200v, %d", c.what, r, err, want, c.err)
		}
	}
}

// P8.3: Changed.
func TestChanged(t *testing.T) {
	r := files("a", "1", "b", "", "c/d", "3")
	for _, c := range []struct {
		what string
		a, b api.Repo
		want []string
	}{
		{"none with none", api.Repo{}, api.Repo{Files: []api.File{}}, nil},
		{"with itself", r, r, nil},
		{"one that came", r, plus(r, "b.go", "2"), []string{"b.go"}},
		{"an empty one that came", r, plus(r, "e", ""), []string{"e"}},
		{"one that went", r, files("b", "", "c/d", "3"), []string{"a"}},
		{"an empty one that went", r, files("a", "1", "c/d", "3"), []string{"b"}},
		{"another text", r, plus(r, "c/d", "4"), []string{"c/d"}},
		{"a text that is empty now", r, plus(r, "a", ""), []string{"a"}},
		{"a text that was empty", r, plus(r, "b", "2"), []string{"b"}},
		{"all of them", r, api.Repo{}, []string{"a", "b", "c/d"}},
		{"rising, out of both", files("B", "", "a.go", "", "c", "1"), files("a", "", "a-", "", "c", "2", "d", ""), []string{"B", "a", "a-", "a.go", "c", "d"}},
		{"as many as may be", many(0, 16, ""), many(16, 32, ""), allPaths(many(0, 32, ""))},
	} {
		for _, two := range [][2]api.Repo{{c.a, c.b}, {c.b, c.a}} {
			if got, err := merge.Changed(two[0], two[1]); err != api.OK || !slices.Equal(got, c.want) || !slices.Equal(wantChanged(two[0], two[1]), c.want) {
				t.Errorf("%s: %v, error %d, want %v", c.what, got, err, c.want)
			}
		}
	}
}

// P8.3: Same, of clashes that differ in each field alone, in their order, in how many they are.
func TestSame(t *testing.T) {
	one := api.Clash{Path: "a", Base: "1", Ours: "2", Theirs: "3", InBase: true, InOurs: true, InTheirs: true}
	unlike := []api.Clash{one, one, one, one, one, one, one, {}}
	unlike[0].Path = "b"
	unlike[1].Base = ""
	unlike[2].Ours = ""
	unlike[3].Theirs = "2"
	unlike[4].InBase = false
	unlike[5].InOurs = false
	unlike[6].InTheirs = false
	for i, other := range unlike {
		for _, two := range [][2][]api.Clash{{{one}, {other}}, {{one, one}, {one, other}}, {{one, one}, {other, one}}, {{one, other}, {other, one}}, {{one}, {one, other}}, {nil, {other}}} {
			if merge.Same(two[0], two[1]) || merge.Same(two[1], two[0]) {
				t.Errorf("%d: %v and %v are the same", i, two[0], two[1])
			}
		}
		if !merge.Same([]api.Clash{one, other}, []api.Clash{one, other}) || !merge.Same([]api.Clash{other}, []api.Clash{other}) {
			t.Errorf("%d: what is the same is not", i)
		}
	}
	if !merge.Same(nil, []api.Clash{}) || !merge.Same(nil, nil) || !merge.Same([]api.Clash{}, nil) {
		t.Error("nil and empty are not the same")
	}
	if merge.Same([]api.Clash{one}, []api.Clash{one, one}) || merge.Same([]api.Clash{one, one}, []api.Clash{one}) {
		t.Error("one and two are the same")
	}
	if !merge.Same([]api.Clash{{Path: "//", Ours: big + big}}, []api.Clash{{Path: "//", Ours: big + big}}) {
		t.Error("what may not be is not asked, and is the same")
	}
}

// about are clashes with the names of the two changed about.
func about(list []api.Clash) []api.Clash {
	var out []api.Clash
	for _, c := range list {
		c.Ours, c.Theirs, c.InOurs, c.InTheirs = c.Theirs, c.Ours, c.InTheirs, c.InOurs
		out = append(out, c)
	}
	return out
}

// follows: P8.4, of three repositories.
func follows(t *testing.T, base, ours, theirs api.Repo) {
	t.Helper()
	for i, three := range [][3]api.Repo{{base, base, theirs}, {base, theirs, base}, {base, theirs, theirs}} {
		if r, list, err := merge.Merge(three[0], three[1], three[2]); err != api.OK || list != nil || !tree.Same(r, theirs) {
			t.Fatalf("%d: Merge(%v): %v, %v, error %d", i, three, r, list, err)
		}
	}
	r, list, err := merge.Merge(base, ours, theirs)
	r2, list2, err2 := merge.Merge(base, theirs, ours)
	if err != err2 || !tree.Same(r, r2) || !merge.Same(list, about(list2)) {
		t.Fatalf("changed about, Merge(%v, %v, %v): %v, %v, error %d; %v, %v, error %d", base, ours, theirs, r, list, err, r2, list2, err2)
	}
	if err != api.OK || list != nil {
		return
	}
	in, _ := merge.Changed(base, ours)
	by, _ := merge.Changed(base, theirs)
	for _, path := range allPaths(base, ours, theirs, r) {
		want := base
		if slices.Contains(in, path) {
			want = ours
		} else if slices.Contains(by, path) {
			want = theirs
		}
		if stands(r, path) != stands(want, path) {
			t.Fatalf("at %s, Merge(%v, %v, %v): %v", path, base, ours, theirs, r)
		}
	}
}

// P8.1 to P8.4, of repositories by chance: each answer comes often.
func TestByChance(t *testing.T) {
	rnd := rand.New(rand.NewSource(8))
	count := map[string]int{}
	for range 6000 {
		base, ours, theirs := anyThree(rnd)
		_, list, err := check(t, "by chance", base, ours, theirs)
		count[fmt.Sprint("Merge ", err, len(list) > 0)]++
		follows(t, base, ours, theirs)
		if len(list) > 1 {
			count["several clashes"]++
		}
		if got, err := merge.Changed(ours, theirs); err != api.OK || !slices.Equal(got, wantChanged(ours, theirs)) {
			t.Fatalf("Changed(%v, %v): %v, error %d", ours, theirs, got, err)
		}
		choice := anyChoice(rnd, list)
		r, err := merge.Settle(base, ours, theirs, choice)
		want, wantErr := wantSettle(base, ours, theirs, choice)
		if err != wantErr || !tree.Same(r, want) {
			t.Fatalf("Settle(%v, %v, %v) with %v: %v, error %d, want %v, %d", base, ours, theirs, choice, r, err, want, wantErr)
		}
		count[fmt.Sprint("Settle ", err)]++
	}
	for _, what := range []string{"several clashes", "Settle 0", "Settle 2", "Settle 4", "Settle 6", "Merge 0 true", "Merge 0 false", "Merge 6 false"} {
		if count[what] < 100 {
			t.Errorf("%s came %d times: %v", what, count[what], count)
		}
	}
}

// anyChoice is a choice for clashes; often a few things are other than they must be.
func anyChoice(rnd *rand.Rand, list []api.Clash) []api.File {
	var choice []api.File
	for _, path := range clashPaths(list) {
		choice = append(choice, api.File{Path: path, Text: []string{"", "4", big}[rnd.Intn(3)]})
	}
	if len(choice) == 0 {
		return choice
	}
	i, j := rnd.Intn(len(choice)), rnd.Intn(len(choice))
	switch rnd.Intn(8) {
	case 0:
		return slices.Delete(choice, i, i+1)
	case 1:
		choice[i], choice[j] = choice[j], choice[i]
	case 2:
		return slices.Insert(choice, i, choice[i])
	case 3:
		choice[i].Path = anyPath(rnd)
	case 4:
		choice[i].Text = big + "t"
	}
	return choice
}

// roomy is files whose list has room behind its end, with something in it.
func roomy(r api.Repo) (list, room []api.File) {
	room = make([]api.File, len(r.Files)+20)
	copy(room, r.Files)
	for i := len(r.Files); i < len(room); i++ {
		room[i] = api.File{Path: "behind", Text: "the end"}
	}
	return room[:len(r.Files)], room
}

// R3: what is handed in is not changed, nor the room behind its end, and not kept; what is answered is new.
func TestMemory(t *testing.T) {
	var three [3]api.Repo
	var rooms [5][]api.File
	three[0].Files, rooms[0] = roomy(files("a", "1", "b", "2", "c", "3"))
	three[1].Files, rooms[1] = roomy(files("a", "1", "b", "3", "c", "4"))
	three[2].Files, rooms[2] = roomy(files("a", "4", "b", "4", "d", "5"))
	var choice, none []api.File
	choice, rooms[3] = roomy(files("b", "6", "c", "7"))
	none, rooms[4] = roomy(api.Repo{})
	was := fmt.Sprint(rooms)
	var repos [6]api.Repo
	repos[0], _ = merge.Settle(three[0], three[1], three[2], choice)
	repos[1], _ = merge.Settle(three[0], three[0], three[2], none)
	repos[2], _, _ = merge.Merge(three[0], three[0], three[2])
	repos[3], _, _ = merge.Merge(three[0], three[1], three[0])
	repos[4], _, _ = merge.Merge(three[0], three[1], three[1])
	repos[5], _, _ = merge.Merge(three[0], three[0], three[0])
	_, clashes, _ := merge.Merge(three[0], three[1], three[2])
	_, clashes2, _ := merge.Merge(three[0], three[1], three[2])
	paths, _ := merge.Clashes(three[0], three[1], three[2])
	list, _ := merge.Changed(three[0], three[2])
	merge.Same(clashes, clashes2)
	for i := range repos {
		if len(repos[i].Files) < 3 {
			t.Fatalf("the answer %d: %v", i, repos[i])
		}
	}
	if fmt.Sprint(rooms) != was || len(clashes) != 2 || len(paths) != 2 || len(list) != 4 {
		t.Fatalf("what was handed in has changed: %v; %v, %v, %v", rooms, clashes, paths, list)
	}
	want := fmt.Sprint(repos, clashes, paths, list)
	for _, room := range rooms {
		for i := range room {
			room[i] = api.File{Path: "z", Text: "z"}
		}
	}
	if got := fmt.Sprint(repos, clashes, paths, list); got != want {
		t.Errorf("what was handed in is kept: %s", got)
	}
	clear(clashes[:cap(clashes)])
	if !reflect.DeepEqual(clashPaths(clashes2), paths) {
		t.Errorf("two answers share memory: %v", clashes2)
	}
	for i := range repos {
		before := fmt.Sprint(repos[i+1:], rooms)
		clear(repos[i].Files[:cap(repos[i].Files)])
		if fmt.Sprint(repos[i+1:], rooms) != before {
			t.Errorf("the answer %d and another list share memory", i)
		}
	}
}
