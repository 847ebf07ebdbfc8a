package refs_test

import (
	"bytes"
	"crypto/sha256"
	"encoding/binary"
	"fmt"
	"math/rand"
	"slices"
	"sort"
	"strings"

	"shipwright/api"
)

// What branches are, what a history and a sound commit are, and what each call has to answer is said here anew from the chapters' words, so that the tests do not lean on what they test.

const nameSigns = "abcdefghijklmnopqrstuvwxyzABCDEFGHIJKLMNOPQRSTUVWXYZ0123456789._-"

func mayName(s string) bool {
	for i := 0; i < len(s); i++ {
		if strings.IndexByte(nameSigns, s[i]) < 0 {
			return false
		}
	}
	return len(s) >= 1 && len(s) <= 24 && s != "." && s != ".."
}

func mayRefs(r api.Refs) bool {
	for i, b := range r.List {
		if !mayName(b.Name) || i > 0 && strings.Compare(r.List[i-1].Name, b.Name) >= 0 {
			return false
		}
	}
	return len(r.List) <= 8
}

// branches is what a list of branches says, whatever their order.
func branches(r api.Refs) map[string]api.Id {
	m := map[string]api.Id{}
	for _, b := range r.List {
		m[b.Name] = b.Id
	}
	return m
}

// refsOf is the other way round, the names rising.
func refsOf(m map[string]api.Id) api.Refs {
	var r api.Refs
	for name, id := range m {
		r.List = append(r.List, api.Ref{Name: name, Id: id})
	}
	sort.Slice(r.List, func(i, j int) bool { return r.List[i].Name < r.List[j].Name })
	return r
}

func wantGet(r api.Refs, name string) (api.Id, api.Errno) {
	if !mayRefs(r) {
		return api.Id{}, api.ErrRefs
	}
	id, ok := branches(r)[name]
	if !ok {
		return api.Id{}, api.ErrNone
	}
	return id, api.OK
}

func wantApply(r api.Refs, m api.Move) (api.Refs, api.Errno) {
	var no api.Id
	if !mayRefs(r) || !mayName(m.Name) || m.From == no && m.To == no {
		return api.Refs{}, api.ErrRefs
	}
	all := branches(r)
	id, there := all[m.Name]
	switch {
	case m.From != no && !there:
		return api.Refs{}, api.ErrNone
	case m.From == no && there:
		return api.Refs{}, api.ErrThere
	case m.From != no && id != m.From:
		return api.Refs{}, api.ErrMoved
	}
	all[m.Name] = m.To
	if m.To == no {
		delete(all, m.Name)
	}
	if len(all) > 8 {
		return api.Refs{}, api.ErrFull
	}
	return refsOf(all), api.OK
}

func mayPath(s string) bool {
	list := strings.Split(s, "/")
	for _, name := range list {
		if !mayName(name) {
			return false
		}
	}
	return len(list) <= 4 && len(s) <= 64
}

func mayRepo(r api.Repo) bool {
	sum := 0
	for i, f := range r.Files {
		if !mayPath(f.Path) || len(f.Text) > 4096 {
			return false
		}
		if i > 0 && strings.Compare(r.Files[i-1].Path, f.Path) >= 0 {
			return false
		}
		for _, g := range r.Files {
			if strings.HasPrefix(g.Path, f.Path+"/") {
				return false
			}
		}
		sum += len(f.Text)
	}
	return len(r.Files) <= 16 && sum <= 16384
}

func mayObject(o api.Object) bool {
	noTree := len(o.Entries) == 0
	noCommit := o.Tree == api.Id{} && len(o.Parents) == 0 && o.Number == 0 && o.Note == ""
	switch o.Kind {
	case api.ObjBlob:
		return len(o.Bytes) <= 4096 && noTree && noCommit
	case api.ObjTree:
		for i, e := range o.Entries {
			if !mayName(e.Name) || i > 0 && o.Entries[i-1].Name >= e.Name {
				return false
			}
		}
		return len(o.Entries) <= 32 && len(o.Bytes) == 0 && noCommit
	case api.ObjCommit:
		return len(o.Parents) <= 2 && len(o.Note) <= 200 && noTree && len(o.Bytes) == 0
	}
	return false
}

// laid are the bytes of an object that may be.
func laid(o api.Object) []byte {
	b := []byte{byte(o.Kind)}
	switch o.Kind {
	case api.ObjBlob:
		b = binary.BigEndian.AppendUint16(b, uint16(len(o.Bytes)))
		b = append(b, o.Bytes...)
	case api.ObjTree:
		b = append(b, byte(len(o.Entries)))
		for _, e := range o.Entries {
			b = append(b, byte(len(e.Name)))
			b = append(b, e.Name...)
			if e.Folder {
				b = append(b, 1)
			} else {
				b = append(b, 0)
			}
			b = append(b, e.Id[:]...)
		}
	case api.ObjCommit:
		b = append(b, o.Tree[:]...)
		b = append(b, byte(len(o.Parents)))
		for _, p := range o.Parents {
			b = append(b, p[:]...)
		}
		b = binary.BigEndian.AppendUint32(b, o.Number)
		b = append(b, byte(len(o.Note)))
		b = append(b, o.Note...)
	}
	return b
}

func digest(o api.Object) api.Id { return api.Id(sha256.Sum256(laid(o))) }

func held(o api.Object) api.Held { return api.Held{Id: digest(o), Object: o} }

func blob(text string) api.Object {
	return api.Object{Kind: api.ObjBlob, Bytes: []byte(text)}
}

func folder(list ...api.Entry) api.Object {
	return api.Object{Kind: api.ObjTree, Entries: list}
}

func commit(root api.Id, number uint32, parents ...api.Id) api.Object {
	return api.Object{Kind: api.ObjCommit, Tree: root, Number: number, Parents: parents}
}

// split is the objects of a repository, in order, each once.
func split(r api.Repo) []api.Held {
	var all []api.Held
	for _, x := range under(r, "") {
		if !slices.ContainsFunc(all, func(y api.Held) bool { return x.Id == y.Id }) {
			all = append(all, x)
		}
	}
	return all
}

// under is the objects of the folder whose files begin so, its own one last; one that comes twice stands there twice.
func under(r api.Repo, ahead string) []api.Held {
	names := map[string]bool{} // whether it is a folder
	for _, f := range r.Files {
		if rest, ok := strings.CutPrefix(f.Path, ahead); ok {
			name, _, deeper := strings.Cut(rest, "/")
			names[name] = deeper
		}
	}
	var list []string
	for name := range names {
		list = append(list, name)
	}
	sort.Strings(list)
	var all []api.Held
	own := folder()
	for _, name := range list {
		if names[name] {
			all = append(all, under(r, ahead+name+"/")...)
		} else {
			i := slices.IndexFunc(r.Files, func(f api.File) bool { return f.Path == ahead+name })
			all = append(all, held(blob(r.Files[i].Text)))
		}
		own.Entries = append(own.Entries, api.Entry{Name: name, Folder: names[name], Id: all[len(all)-1].Id})
	}
	return append(all, held(own))
}

// firsts is the objects of a heap by their Ids.
func firsts(h api.Heap) map[api.Id]api.Object {
	m := map[api.Id]api.Object{}
	for _, x := range slices.Backward(h.List) {
		m[x.Id] = x.Object
	}
	return m
}

// load is what tree.Load has to answer.
func load(all map[api.Id]api.Object, root api.Id) (api.Repo, api.Errno) {
	texts := map[string]string{}
	var walk func(path string, isFolder bool, id api.Id) api.Errno
	walk = func(path string, isFolder bool, id api.Id) api.Errno {
		if !isFolder && len(texts) == 16 || isFolder && strings.Count(path, "/") > 3 {
			return api.ErrRepo
		}
		o, ok := all[id]
		if !ok {
			return api.ErrNone
		}
		if !mayObject(o) || isFolder != (o.Kind == api.ObjTree) || o.Kind == api.ObjCommit {
			return api.ErrObject
		}
		if !isFolder {
			texts[path] = string(o.Bytes)
			return api.OK
		}
		if path != "" && len(o.Entries) == 0 {
			return api.ErrRepo
		}
		for _, e := range o.Entries {
			next := path + e.Name
			if e.Folder {
				next += "/"
			}
			if err := walk(next, e.Folder, e.Id); err != api.OK {
				return err
			}
		}
		return api.OK
	}
	if err := walk("", true, root); err != api.OK {
		return api.Repo{}, err
	}
	var r api.Repo
	for path, text := range texts {
		r.Files = append(r.Files, api.File{Path: path, Text: text})
	}
	sort.Slice(r.Files, func(i, j int) bool { return r.Files[i].Path < r.Files[j].Path })
	if !mayRepo(r) {
		return api.Repo{}, api.ErrRepo
	}
	return r, api.OK
}

// there is ErrNone or ErrObject of a commit alone.
func there(all map[api.Id]api.Object, id api.Id) api.Errno {
	o, ok := all[id]
	if !ok {
		return api.ErrNone
	}
	if o.Kind != api.ObjCommit || !mayObject(o) {
		return api.ErrObject
	}
	return api.OK
}

// wantSound is Sound's error, said by a function that calls itself.
func wantSound(all map[api.Id]api.Object, id api.Id) api.Errno {
	asked := map[api.Id]bool{}
	var ask func(id api.Id) api.Errno
	ask = func(id api.Id) api.Errno {
		if asked[id] {
			return api.OK
		}
		asked[id] = true
		if err := there(all, id); err != api.OK {
			return err
		}
		c := all[id]
		if _, err := load(all, c.Tree); err != api.OK {
			return err
		}
		greatest := int64(-1)
		for _, p := range c.Parents {
			if err := there(all, p); err != api.OK {
				return err
			}
			if all[p].Number >= c.Number {
				return api.ErrObject
			}
			greatest = max(greatest, int64(all[p].Number))
		}
		if int64(c.Number) != greatest+1 {
			return api.ErrObject
		}
		for _, p := range c.Parents {
			if err := ask(p); err != api.OK {
				return err
			}
		}
		return api.OK
	}
	return ask(id)
}

func wantLine(all map[api.Id]api.Object, id api.Id) ([]api.Id, api.Errno) {
	if err := wantSound(all, id); err != api.OK {
		return nil, err
	}
	list := []api.Id{id}
	for len(all[id].Parents) > 0 {
		id = all[id].Parents[0]
		list = append(list, id)
	}
	return list, api.OK
}

// wantAbove makes the history greater as long as one of its commits names another one.
func wantAbove(all map[api.Id]api.Object, old, id api.Id) (bool, api.Errno) {
	if err := wantSound(all, id); err != api.OK {
		return false, err
	}
	history := []api.Id{id}
	for i := 0; i < len(history); i++ {
		for _, p := range all[history[i]].Parents {
			if !slices.Contains(history, p) {
				history = append(history, p)
			}
		}
	}
	return slices.Contains(history, old), api.OK
}

func wantRepo(all map[api.Id]api.Object, id api.Id) (api.Repo, api.Errno) {
	if err := there(all, id); err != api.OK {
		return api.Repo{}, err
	}
	return load(all, all[id].Tree)
}

func wantCommit(all map[api.Id]api.Object, r api.Repo, parents []api.Id, note string) ([]api.Held, api.Id, api.Errno) {
	if !mayRepo(r) {
		return nil, api.Id{}, api.ErrRepo
	}
	if len(parents) > 2 || len(note) > 200 {
		return nil, api.Id{}, api.ErrObject
	}
	number := uint32(0)
	for _, p := range parents {
		if all[p].Number == 1<<32-1 {
			return nil, api.Id{}, api.ErrObject
		}
		number = max(number, all[p].Number+1)
	}
	for _, p := range parents {
		if err := wantSound(all, p); err != api.OK {
			return nil, api.Id{}, err
		}
	}
	list := split(r)
	c := commit(list[len(list)-1].Id, number, parents...)
	c.Note = note
	list = append(list, held(c))
	for _, x := range list {
		if o, ok := all[x.Id]; ok && !sameObjects(o, x.Object) {
			return nil, api.Id{}, api.ErrTwin
		}
	}
	id := list[len(list)-1].Id
	return slices.DeleteFunc(list, func(x api.Held) bool {
		_, ok := all[x.Id]
		return ok
	}), id, api.OK
}

func sameObjects(a, b api.Object) bool {
	return fmt.Sprintf("%#v", plain(a)) == fmt.Sprintf("%#v", plain(b))
}

func sameHeld(a, b []api.Held) bool {
	return slices.EqualFunc(a, b, func(x, y api.Held) bool { return x.Id == y.Id && sameObjects(x.Object, y.Object) })
}

// plain is an object whose empty lists are nil ones.
func plain(o api.Object) api.Object {
	if len(o.Bytes) == 0 {
		o.Bytes = nil
	}
	if len(o.Entries) == 0 {
		o.Entries = nil
	}
	if len(o.Parents) == 0 {
		o.Parents = nil
	}
	return o
}

// cloned is objects that share nothing with others.
func cloned(list []api.Held) []api.Held {
	var c []api.Held
	for _, x := range list {
		x.Object.Bytes = bytes.Clone(x.Object.Bytes)
		x.Object.Entries = slices.Clone(x.Object.Entries)
		x.Object.Parents = slices.Clone(x.Object.Parents)
		c = append(c, x)
	}
	return c
}

// files is a repository of paths and texts by turns, in the order in which they are given.
func files(list ...string) api.Repo {
	var r api.Repo
	for i := 0; i < len(list); i += 2 {
		r.Files = append(r.Files, api.File{Path: list[i], Text: list[i+1]})
	}
	return r
}

// anyRepo is one of a few repositories, so that commits meet in their objects.
func anyRepo(rnd *rand.Rand) api.Repo {
	switch rnd.Intn(6) {
	case 0:
		return api.Repo{}
	case 1:
		return files("a", "1")
	case 2:
		return files("a", "2")
	case 3:
		return files("a/x.go", "1", "a/y.go", "1", "b/x.go", "1")
	case 4:
		return files("a/b/c/d", fmt.Sprint(rnd.Intn(1000)), "e", "2")
	}
	return files("a-", "1", "a/b", "2", "a0", fmt.Sprint(rnd.Intn(3)))
}

// anyOf is one of a list.
func anyOf[T any](rnd *rand.Rand, list ...T) T { return list[rnd.Intn(len(list))] }
