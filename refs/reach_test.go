package refs

import (
	"slices"
	"testing"

	"shipwright/api"
)

// ladder is commits 1 to 6: 6 has 5 and 4, 5 has 3 and 2, 4 has 2 and 9 (which is missing), 3 has 1, 2 has 1, 1 has 6.
func ladder() api.Heap {
	var h api.Heap
	for n, parents := range [][]byte{{6}, {1}, {1}, {2, 9}, {3, 2}, {5, 4}} {
		o := api.Object{Kind: api.ObjCommit}
		for _, p := range parents {
			o.Parents = append(o.Parents, api.Id{p})
		}
		h.List = append(h.List, api.Held{Id: api.Id{byte(n + 1)}, Object: o})
	}
	return h
}

// R6: what is reached may be left early at each place, and gone through again; each comes once, in order, and a ring ends.
func TestReach(t *testing.T) {
	f := find(ladder())
	for _, c := range []struct {
		links func(api.Object) []api.Id
		want  []byte
	}{{byParents, []byte{6, 5, 3, 1, 2, 4}}, {byFirst, []byte{6, 5, 3, 1}}, {byEntries, []byte{6}}} {
		seq := f.reach(api.Id{6}, c.links)
		for stop := range len(c.want) + 1 {
			var got []byte
			for held := range seq {
				if len(got) == stop {
					break
				}
				got = append(got, held.Id[0])
			}
			if !slices.Equal(got, c.want[:stop]) {
				t.Errorf("left at %d: %v, want %v", stop, got, c.want[:stop])
			}
		}
	}
	for range f.reach(api.Id{9}, byParents) {
		t.Error("what is missing leads somewhere")
	}
}

// P9.5: of two unlike objects with one Id, both of which would be told, ErrTwin is told. No two texts are known of which this comes by itself.
func TestOwnTwin(t *testing.T) {
	a := api.Object{Kind: api.ObjBlob, Bytes: []byte("a")}
	b := api.Object{Kind: api.ObjBlob, Bytes: []byte("b")}
	one, two := api.Id{1}, api.Id{2}
	var f finder
	list, err := f.missing([]api.Held{{Id: one, Object: a}, {Id: two, Object: b}})
	if err != api.OK || len(list) != 2 {
		t.Errorf("two Ids: %v, error %d", list, err)
	}
	list, err = f.missing([]api.Held{{Id: one, Object: a}, {Id: one, Object: b}})
	if err != api.ErrTwin || list != nil {
		t.Errorf("one Id: %v, error %d", list, err)
	}
	list, err = f.missing([]api.Held{{Id: one, Object: a}, {Id: two, Object: b}, {Id: one, Object: b}})
	if err != api.ErrTwin || list != nil {
		t.Errorf("one Id, another one between: %v, error %d", list, err)
	}
}

// P9.3: a folder leads to its files and folders, and no farther: a commit that it names, wrongly, leads to nothing.
func TestPart(t *testing.T) {
	one, two, three, four := api.Id{1}, api.Id{2}, api.Id{3}, api.Id{4}
	h := api.Heap{List: []api.Held{
		{Id: four, Object: api.Object{Kind: api.ObjBlob}},
		{Id: three, Object: api.Object{Kind: api.ObjCommit, Tree: four}},
		{Id: two, Object: api.Object{Kind: api.ObjTree, Entries: []api.Entry{{Name: "a", Id: three}, {Name: "b", Folder: true, Id: one}}}},
		{Id: one, Object: api.Object{Kind: api.ObjTree, Entries: []api.Entry{{Name: "a", Folder: true, Id: two}}}},
	}}
	var got []byte
	for _, held := range find(h).part(one).List {
		got = append(got, held.Id[0])
	}
	if !slices.Equal(got, []byte{1, 2, 3}) {
		t.Errorf("%v", got)
	}
}
