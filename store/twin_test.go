package store

import (
	"testing"

	"shipwright/api"
	"shipwright/disk"
	"shipwright/object"
)

// P6.2: nobody knows two unlike objects with one Id; so one is laid under another one's Id by hand.
func TestTwin(t *testing.T) {
	d, _ := disk.New(42)
	s, err := Format(d, 20)
	if err != api.OK {
		t.Fatal(err)
	}
	a := api.Object{Kind: api.ObjBlob, Bytes: []byte("a")}
	b := api.Object{Kind: api.ObjBlob, Bytes: []byte("b")}
	id, _ := object.Id(a)
	s.objects[id] = b
	s.order = append(s.order, id)
	ops := d.Ops()
	loose := api.Object{Kind: api.ObjTree, Entries: []api.Entry{{Name: "a", Id: api.Id{1}}}}
	stale := api.Set{Name: "k", Was: true}
	for _, c := range []struct {
		what  string
		batch api.Batch
		want  api.Errno
	}{
		{"a twin", api.Batch{Objects: []api.Object{a}}, api.ErrTwin},
		{"a twin behind another one", api.Batch{Objects: []api.Object{b, a}}, api.ErrTwin},
		{"a twin ahead of links that lead nowhere", api.Batch{Objects: []api.Object{a, loose}}, api.ErrTwin},
		{"a twin behind links that lead nowhere", api.Batch{Objects: []api.Object{loose, a}}, api.ErrNone},
		{"a twin, and a stale Set", api.Batch{Objects: []api.Object{a}, Sets: []api.Set{stale}}, api.ErrTwin},
		{"a twin, and a batch that may not be", api.Batch{Objects: []api.Object{a, {}}}, api.ErrArg},
	} {
		if err := s.Commit(c.batch); err != c.want {
			t.Errorf("%s: error %d, want %d", c.what, err, c.want)
		}
	}
	if d.Ops() != ops || len(s.order) != 1 {
		t.Errorf("what was refused has been written")
	}
}
