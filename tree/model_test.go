package tree_test

import (
	"bytes"
	"crypto/sha256"
	"encoding/binary"
	"fmt"
	"math/rand"
	"slices"
	"sort"
	"strings"

	"shipwright/api"
)

// What a path and a repository are, which objects it has and in which order, what comes of a heap and what differs is said here anew from the chapter's words, so that the tests do not lean on what they test.

const nameSigns = "abcdefghijklmnopqrstuvwxyzABCDEFGHIJKLMNOPQRSTUVWXYZ0123456789._-"

func mayName(s string) bool {
	for i := 0; i < len(s); i++ {
		if strings.IndexByte(nameSigns, s[i]) < 0 {
			return false
		}
	}
	return len(s) >= 1 && len(s) <= 24 && s != "." && s != ".."
}

func mayPath(s string) bool {
	list := strings.Split(s, "/")
	for _, name := range list {
		if !mayName(name) {
			return false
		}
	}
	return len(list) <= 4 && len(s) <= 64
}

func mayRepo(r api.Repo) bool {
	sum := 0
	for i, f := range r.Files {
		if !mayPath(f.Path) || len(f.Text) > 4096 {
			return false
		}
		if i > 0 && strings.Compare(r.Files[i-1].Path, f.Path) >= 0 {
			return false
		}
		for _, g := range r.Files {
			if strings.HasPrefix(g.Path, f.Path+"/") {
				return false
			}
		}
		sum += len(f.Text)
	}
	return len(r.Files) <= 16 && sum <= 16384
}

// mayObject says whether an object may be that has Bytes alone, or Entries alone; a commit is asked for nothing, as no repository has one.
func mayObject(o api.Object) bool {
	switch o.Kind {
	case api.ObjBlob:
		return len(o.Bytes) <= 4096 && len(o.Entries) == 0 && o.Note == ""
	case api.ObjTree:
		for i, e := range o.Entries {
			if !mayName(e.Name) || i > 0 && o.Entries[i-1].Name >= e.Name {
				return false
			}
		}
		return len(o.Entries) <= 32 && len(o.Bytes) == 0 && o.Note == ""
	}
	return false
}

// laid are the bytes of a file or a folder.
func laid(o api.Object) []byte {
	b := []byte{byte(o.Kind)}
	if o.Kind == api.ObjBlob {
		b = binary.BigEndian.AppendUint16(b, uint16(len(o.Bytes)))
		return append(b, o.Bytes...)
	}
	b = append(b, byte(len(o.Entries)))
	for _, e := range o.Entries {
		b = append(b, byte(len(e.Name)))
		b = append(b, e.Name...)
		if e.Folder {
			b = append(b, 1)
		} else {
			b = append(b, 0)
		}
		b = append(b, e.Id[:]...)
	}
	return b
}

func digest(o api.Object) api.Id { return api.Id(sha256.Sum256(laid(o))) }

func blob(text string) api.Object {
	return api.Object{Kind: api.ObjBlob, Bytes: []byte(text)}
}

func folder(list ...api.Entry) api.Object {
	return api.Object{Kind: api.ObjTree, Entries: list}
}

func held(o api.Object) api.Held { return api.Held{Id: digest(o), Object: o} }

// inner is what stands in a folder: files by their names, folders by theirs.
type inner struct {
	files   map[string]string
	folders map[string]*inner
}

func newInner() *inner {
	return &inner{files: map[string]string{}, folders: map[string]*inner{}}
}

// split is what Split has to answer to a repository.
func split(r api.Repo) (api.Heap, api.Id) {
	top := newInner()
	for _, f := range r.Files {
		at := top
		list := strings.Split(f.Path, "/")
		for _, name := range list[:len(list)-1] {
			if at.folders[name] == nil {
				at.folders[name] = newInner()
			}
			at = at.folders[name]
		}
		at.files[list[len(list)-1]] = f.Text
	}
	all := top.objects()
	root := all[len(all)-1].Id
	var h api.Heap
	seen := map[api.Id]bool{}
	for _, x := range all {
		if !seen[x.Id] {
			seen[x.Id] = true
			h.List = append(h.List, x)
		}
	}
	return h, root
}

// objects are all objects of a folder, in order, its own one last; one that comes twice stands there twice.
func (f *inner) objects() []api.Held {
	var list []string
	for name := range f.files {
		list = append(list, name)
	}
	for name := range f.folders {
		list = append(list, name)
	}
	sort.Strings(list)
	var all []api.Held
	o := api.Object{Kind: api.ObjTree}
	for _, name := range list {
		in := f.folders[name]
		if in != nil {
			all = append(all, in.objects()...)
		} else {
			all = append(all, held(blob(f.files[name])))
		}
		o.Entries = append(o.Entries, api.Entry{Name: name, Folder: in != nil, Id: all[len(all)-1].Id})
	}
	return append(all, held(o))
}

// load is what Load has to answer: what is still to be looked at stands on a pile, the next one on top.
func load(h api.Heap, root api.Id) (api.Repo, api.Errno) {
	first := map[api.Id]api.Object{}
	for _, x := range slices.Backward(h.List) {
		first[x.Id] = x.Object
	}
	type item struct {
		path string
		api.Entry
	}
	texts := map[string]string{}
	pile := []item{{"", api.Entry{Folder: true, Id: root}}}
	for len(pile) > 0 {
		next := pile[len(pile)-1]
		pile = pile[:len(pile)-1]
		if !next.Folder && len(texts) == 16 {
			return api.Repo{}, api.ErrRepo
		}
		// The uppermost folder's path has no slash; a/, a/b/ and a/b/c/ may be folders in it.
		if next.Folder && strings.Count(next.path, "/") > 3 {
			return api.Repo{}, api.ErrRepo
		}
		o, ok := first[next.Id]
		if !ok {
			return api.Repo{}, api.ErrNone
		}
		if !mayObject(o) || next.Folder != (o.Kind == api.ObjTree) {
			return api.Repo{}, api.ErrObject
		}
		if !next.Folder {
			texts[next.path] = string(o.Bytes)
			continue
		}
		if next.path != "" && len(o.Entries) == 0 {
			return api.Repo{}, api.ErrRepo
		}
		for _, e := range slices.Backward(o.Entries) {
			path := next.path + e.Name
			if e.Folder {
				path += "/"
			}
			pile = append(pile, item{path, e})
		}
	}
	r := repo(texts)
	if !mayRepo(r) {
		return api.Repo{}, api.ErrRepo
	}
	return r, api.OK
}

// repo has these texts at these paths.
func repo(texts map[string]string) api.Repo {
	var r api.Repo
	for path, text := range texts {
		r.Files = append(r.Files, api.File{Path: path, Text: text})
	}
	sort.Slice(r.Files, func(i, j int) bool { return r.Files[i].Path < r.Files[j].Path })
	return r
}

// texts is the other way round.
func texts(r api.Repo) map[string]string {
	m := map[string]string{}
	for _, f := range r.Files {
		m[f.Path] = f.Text
	}
	return m
}

// diff is what Diff has to answer to two repositories.
func diff(a, b api.Repo) []api.Delta {
	old, new := texts(a), texts(b)
	var list []api.Delta
	for path, text := range old {
		if now, is := new[path]; !is || now != text {
			list = append(list, api.Delta{Path: path, Was: true, Is: is, Old: text, New: now})
		}
	}
	for path, text := range new {
		if _, was := old[path]; !was {
			list = append(list, api.Delta{Path: path, Is: true, New: text})
		}
	}
	sort.Slice(list, func(i, j int) bool { return list[i].Path < list[j].Path })
	return list
}

// sameHeaps tells whether two heaps have the same objects, in the same order.
func sameHeaps(a, b api.Heap) bool {
	return slices.EqualFunc(a.List, b.List, func(x, y api.Held) bool {
		return x.Id == y.Id && fmt.Sprintf("%#v", plain(x.Object)) == fmt.Sprintf("%#v", plain(y.Object))
	})
}

// plain is an object whose empty lists are nil ones.
func plain(o api.Object) api.Object {
	if len(o.Bytes) == 0 {
		o.Bytes = nil
	}
	if len(o.Entries) == 0 {
		o.Entries = nil
	}
	if len(o.Parents) == 0 {
		o.Parents = nil
	}
	return o
}

// cloned is a heap that shares nothing with another one.
func cloned(h api.Heap) api.Heap {
	var c api.Heap
	for _, x := range h.List {
		x.Object.Bytes = bytes.Clone(x.Object.Bytes)
		x.Object.Entries = slices.Clone(x.Object.Entries)
		x.Object.Parents = slices.Clone(x.Object.Parents)
		c.List = append(c.List, x)
	}
	return c
}

// anyName takes from few names, so that paths meet; the slash stands behind - and . and ahead of 0 and letters.
func anyName(rnd *rand.Rand) string {
	return []string{"a", "a-", "a.go", "a0", "ab", "b", "B", "_", "b.b"}[rnd.Intn(9)]
}

func anyPath(rnd *rand.Rand) string {
	path := anyName(rnd)
	for n := rnd.Intn(4); n > 0; n-- {
		path += "/" + anyName(rnd)
	}
	return path
}

// anyRepo is a repository by chance.
func anyRepo(rnd *rand.Rand) api.Repo {
	var r api.Repo
	for n := rnd.Intn(20); n > 0; n-- {
		m := texts(r)
		m[anyPath(rnd)] = []string{"", "1", "2", "package a"}[rnd.Intn(4)]
		if next := repo(m); mayRepo(next) {
			r = next
		}
	}
	return r
}
