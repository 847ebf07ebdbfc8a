package tree

import (
	"testing"

	"shipwright/api"
	"shipwright/object"
)

// P7.2: nobody knows two unlike objects with one Id; so one is laid under another one's Id by hand, where Split collects its objects.
func TestTwin(t *testing.T) {
	text := api.Object{Kind: api.ObjBlob, Bytes: []byte("1")}
	id, _ := object.Id(text)
	r := api.Repo{Files: []api.File{{Path: "a/b/x.go", Text: "0"}, {Path: "a/b/y.go", Text: "1"}, {Path: "c", Text: "2"}}}
	twin := api.Heap{List: []api.Held{{Id: id, Object: api.Object{Kind: api.ObjBlob, Bytes: []byte("2")}}}}
	if root, err := build(&twin, r, ""); err != api.ErrTwin || root != (api.Id{}) {
		t.Errorf("with a twin: %x, error %d, want none, %d", root, err, api.ErrTwin)
	}
	same := api.Heap{List: []api.Held{{Id: id, Object: text}}}
	root, err := build(&same, r, "")
	if _, want, _ := Split(r); err != api.OK || root != want || len(same.List) != 6 {
		t.Errorf("with the same one: %x and %d objects, error %d", root, len(same.List), err)
	}
}
