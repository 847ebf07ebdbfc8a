package store_test

import (
	"bytes"
	"crypto/sha256"
	"encoding/binary"
	"fmt"
	"math"
	"reflect"
	"slices"
	"strings"
	"testing"

	"shipwright/api"
	"shipwright/disk"
	"shipwright/object"
	"shipwright/store"
	"shipwright/wal"
)

// names are n names that rise.
func names(n int) []string {
	var list []string
	for i := range n {
		list = append(list, fmt.Sprintf("n%02d", i))
	}
	return list
}

// many are n small blobs, no two alike, from a number on.
func many(n, from int) []api.Object {
	var list []api.Object
	for i := range n {
		list = append(list, blob(string([]byte{byte((from + i) >> 8), byte(from + i)})))
	}
	return list
}

// long are n bytes.
func long(n int) string {
	return strings.Repeat("v", n)
}

// P6.1 to P6.5: the chapter's examples.
func TestExamples(t *testing.T) {
	p := format(t, 20)
	b := blob("a")
	f := api.Object{Kind: api.ObjTree, Entries: []api.Entry{{Name: "a", Id: id(b)}}}
	p.commit("Commit(t)", objects(f), api.ErrNone)
	p.commit("Commit(b, t, k)", api.Batch{Objects: []api.Object{b, f}, Sets: []api.Set{put("k", "\x07")}}, api.OK)
	if o, err := p.s.Get(id(b)); err != api.OK || !object.Same(o, b) {
		t.Errorf("Get: %v, error %d", o, err)
	}
	if v, ok := p.s.Value("k"); !ok || string(v) != "\x07" {
		t.Errorf("Value: %v, %v", v, ok)
	}
	if n := len(p.s.Heap().List); n != 2 {
		t.Errorf("%d objects", n)
	}
	p.commit("Set k: 08, 09", sets(swap("k", "\x08", "\x09")), api.ErrStale)
	p.commit("Set k: 07, nothing", sets(drop("k", "\x07")), api.OK)
	if list := p.s.Names(); len(list) != 0 {
		t.Errorf("Names: %v", list)
	}
	p.sweep("Sweep(i)", ids(b), 1, api.OK)
	p.sweep("Sweep(t's Id)", ids(f), 0, api.ErrNone)
	if x, err := store.Decode([]byte{0, 0, 0}); err != api.OK || len(x.Objects)+len(x.Sets) != 0 {
		t.Errorf("Decode(00 00 00): %v, error %d", x, err)
	}
	if _, err := store.Decode([]byte{0, 1}); err != api.ErrShort {
		t.Errorf("Decode(00 01): error %d", err)
	}
}

// P6.1: Format's errors are wal.Format's; a store with nothing is made, whatever the disk held.
func TestFormat(t *testing.T) {
	small, _ := disk.New(9)
	dead, _ := disk.New(42)
	dead.Arm(0)
	failing, _ := disk.New(42)
	failing.Fail(30)
	for _, c := range []struct {
		what string
		d    *disk.Disk
		area int
		want api.Errno
	}{
		{"of nil", nil, 3, api.ErrNil},
		{"of an area that is too small", small, 3, api.ErrArg},
		{"of a disk that is too small", small, 4, api.ErrArg},
		{"as the power goes", dead, 20, api.ErrDead},
		{"as a write fails", failing, 20, api.ErrIo},
	} {
		s, err := store.Format(c.d, c.area)
		if s != nil {
			t.Errorf("Format %s: a store", c.what)
		}
		wantErr(t, "Format "+c.what, err, c.want)
	}
	p := format(t, 8)
	p.commit("Commit", api.Batch{Objects: []api.Object{blob("a")}, Sets: []api.Set{put("k", "v")}}, api.OK)
	s, err := store.Format(p.s.Wal().Disk(), 5)
	wantErr(t, "Format anew", err, api.OK)
	wantTold(t, "Format anew", tell(t, s), told{left: 4})
}

// P6.1: Open's errors are wal.Open's, ahead of ErrStore.
func TestOpenErrors(t *testing.T) {
	empty, _ := disk.New(42)
	p := format(t, 20)
	wantErr(t, "Append", p.s.Wal().Append(nil), api.OK)
	d := p.s.Wal().Disk()
	failing := d.Copy()
	failing.Fail(21)
	dead := d.Copy()
	dead.Arm(0)
	dead.Sync()
	for _, c := range []struct {
		what string
		d    *disk.Disk
		want api.Errno
	}{
		{"of nil", nil, api.ErrNil},
		{"of a new disk", empty, api.ErrWal},
		{"as a read fails", failing, api.ErrIo},
		{"without power", dead, api.ErrDead},
		{"of a log that has no store", d, api.ErrStore},
	} {
		s, err := store.Open(c.d)
		if s != nil {
			t.Errorf("Open %s: a store", c.what)
		}
		wantErr(t, "Open "+c.what, err, c.want)
	}
}

// logged is a disk whose log has this snapshot and these transactions.
func logged(t *testing.T, snapshot []byte, later ...[]byte) *disk.Disk {
	t.Helper()
	d, _ := disk.New(2002)
	w, err := wal.Format(d, 1000)
	wantErr(t, "Format", err, api.OK)
	if snapshot != nil {
		wantErr(t, "Checkpoint", w.Checkpoint(snapshot), api.OK)
	}
	for _, b := range later {
		wantErr(t, "Append", w.Append(b), api.OK)
	}
	return d
}

// P6.1: logs that have a store.
func TestOpenFinds(t *testing.T) {
	a, b := blob("a"), blob("b")
	f := folder(a, b)
	var full, fuller []api.Set
	for i, name := range names(64) {
		full = append(full, put(name, fmt.Sprint(i)))
		fuller = append(fuller, swap(name, fmt.Sprint(i), "x"))
	}
	for _, c := range []struct {
		what     string
		snapshot []byte
		later    []api.Batch
		heap     []api.Object
		names    []string
	}{
		{"nothing", nil, nil, nil, nil},
		{"a snapshot of nothing", []byte{0, 0, 0}, nil, nil, nil},
		{"a transaction of nothing", nil, []api.Batch{{}}, nil, nil},
		{"a snapshot alone", laid(api.Batch{Objects: []api.Object{b, a, f}, Sets: []api.Set{put("k", ""), put("l", "w")}}), nil, []api.Object{b, a, f}, []string{"k", "l"}},
		{"a snapshot, and more", laid(api.Batch{Objects: []api.Object{a}, Sets: []api.Set{put("k", "v")}}),
			[]api.Batch{{Objects: []api.Object{b, f}}, sets(swap("k", "v", "v")), sets(put("z", ""), drop("k", "v"), still("k2"))}, []api.Object{a, b, f}, []string{"z"}},
		{"64 names, one of them another one", nil, []api.Batch{sets(full...), sets(drop("n07", "7"), put("m", ""))}, nil,
			append([]string{"m"}, slices.DeleteFunc(names(64), func(s string) bool { return s == "n07" })...)},
		{"64 names in the snapshot", laid(sets(full...)), []api.Batch{sets(fuller...)}, nil, names(64)},
		{"4096 objects at once", nil, []api.Batch{objects(many(4096, 0)...)}, many(4096, 0), nil},
	} {
		var later [][]byte
		for _, b := range c.later {
			later = append(later, laid(b))
		}
		d := logged(t, c.snapshot, later...)
		s, err := store.Open(d)
		wantErr(t, "Open of "+c.what, err, api.OK)
		var held []api.Held
		for _, o := range c.heap {
			held = append(held, api.Held{Id: id(o), Object: o})
		}
		if got := tell(t, s); got.heap != heapText(held) || !slices.Equal(s.Names(), c.names) {
			t.Errorf("Open of %s: %+v", c.what, got)
		}
		if s.Broken() || s.Wal().Disk() != d {
			t.Errorf("Open of %s: Broken %v", c.what, s.Broken())
		}
	}
}

// P6.1: logs that have none.
func TestOpenRefuses(t *testing.T) {
	a, b := blob("a"), blob("b")
	f := folder(a, b)
	var full, many65 []api.Set
	for _, name := range names(65) {
		many65 = append(many65, put(name, ""))
	}
	full = many65[:64]
	none := []byte(nil)
	right := laid(api.Batch{Objects: []api.Object{a}, Sets: []api.Set{put("k", "v")}})
	flag := laid(sets(put("k", "v")))
	flag[5] = 2
	wrong := laid(objects(a))
	wrong[4] = 4
	for _, c := range []struct {
		what     string
		snapshot []byte
		later    [][]byte
	}{
		{"a transaction of no bytes", none, [][]byte{{}}},
		{"a transaction that is cut off", none, [][]byte{right[:len(right)-1]}},
		{"a transaction that goes on", none, [][]byte{append(slices.Clone(right), 0)}},
		{"a Was that is 2", none, [][]byte{flag}},
		{"an object that may not be", none, [][]byte{wrong}},
		{"an object twice in a transaction", none, [][]byte{laid(objects(a, a))}},
		{"an object twice in transactions", none, [][]byte{laid(objects(a)), laid(objects(b)), laid(objects(a))}},
		{"an object of the snapshot", right, [][]byte{laid(objects(a))}},
		{"links that lead nowhere", none, [][]byte{laid(objects(a, f))}},
		{"links that stand behind", none, [][]byte{laid(objects(a, f, b))}},
		{"links that stand in a later transaction", none, [][]byte{laid(objects(a, f)), laid(objects(b))}},
		{"a name of no bytes", none, [][]byte{laid(sets(put("", "")))}},
		{"a name of 25 bytes", none, [][]byte{laid(sets(put(long(25), "")))}},
		{"a value of 1025 bytes", none, [][]byte{laid(sets(put("k", long(1025))))}},
		{"a name twice", none, [][]byte{laid(sets(put("k", ""), put("k", "")))}},
		{"an Old where Was is not", none, [][]byte{laid(sets(api.Set{Name: "k", Old: []byte("v")}))}},
		{"a Was where nothing was", none, [][]byte{laid(sets(swap("k", "", "v")))}},
		{"no Was where something was", right, [][]byte{laid(sets(put("k", "v")))}},
		{"no Was where nothing is to be", right, [][]byte{laid(sets(still("k")))}},
		{"another Old", right, [][]byte{laid(sets(drop("k", "w")))}},
		{"an Old that went", right, [][]byte{laid(sets(drop("k", "v"))), laid(sets(drop("k", "v")))}},
		{"65 names", none, [][]byte{laid(sets(full...)), laid(sets(many65[64]))}},
		{"65 names, for a while", none, [][]byte{laid(sets(full...)), laid(sets(many65[64])), laid(sets(drop("n00", "")))}},
		{"65 Sets", none, [][]byte{laid(sets(many65...))}},
		{"a right transaction, and a wrong one", none, [][]byte{right, {0}}},
		{"a snapshot that is cut off", right[:len(right)-1], nil},
		{"a snapshot that goes on", append(slices.Clone(right), 0), nil},
		{"a snapshot of one byte", []byte{0}, nil},
		{"a snapshot with Was", laid(sets(swap("k", "", ""))), nil},
		{"a snapshot with a name that has nothing", laid(sets(still("k"))), nil},
		{"a snapshot with names that do not rise", laid(sets(put("l", ""), put("k", ""))), nil},
		{"a snapshot with an object twice", laid(objects(a, a)), nil},
		{"a snapshot with links that stand behind", laid(objects(a, f, b)), nil},
		{"a snapshot with 4097 objects", laid(objects(many(4097, 0)...)), nil},
	} {
		s, err := store.Open(logged(t, c.snapshot, c.later...))
		if s != nil {
			t.Errorf("Open of %s: a store", c.what)
		}
		if err != api.ErrStore {
			t.Errorf("Open of %s: error %d", c.what, err)
		}
	}
}

// P6.2: batches that may not be.
func TestCommitArg(t *testing.T) {
	p := format(t, 20)
	var many65 []api.Set
	for _, name := range names(65) {
		many65 = append(many65, still(name))
	}
	for what, b := range map[string]api.Batch{
		"4097 objects":            objects(slices.Repeat([]api.Object{blob("a")}, 4097)...),
		"an object of no Kind":    objects(blob("a"), api.Object{}),
		"a blob of 4097 bytes":    objects(blob(long(4097))),
		"a blob with a Note":      objects(api.Object{Kind: api.ObjBlob, Note: "n"}),
		"65 Sets":                 sets(many65...),
		"a name of no bytes":      sets(put("", "v")),
		"a name of 25 bytes":      sets(put(long(25), "v")),
		"a name twice":            sets(put("k", "v"), put("l", "v"), put("k", "v")),
		"a name twice, not set":   sets(still("k"), still("k")),
		"New of 1025 bytes":       sets(put("k", long(1025))),
		"Old of 1025 bytes":       sets(drop("k", long(1025))),
		"Old where Was is false":  sets(api.Set{Name: "k", Old: []byte{0}, Is: true}),
		"New where Is is false":   sets(api.Set{Name: "k", New: []byte{0}}),
		"a second Set is no good": sets(put("k", "v"), api.Set{Name: "l", New: []byte{0}}),
	} {
		p.commit(what, b, api.ErrArg)
		if _, err := store.Encode(b); err != api.ErrArg {
			t.Errorf("Encode of %s: error %d", what, err)
		}
	}
}

// P6.2: batches that may just be, each put and found again.
func TestCommitEdges(t *testing.T) {
	var sets64, swaps []api.Set
	for _, name := range names(64) {
		sets64 = append(sets64, put(name, name))
		swaps = append(swaps, swap(name, name, ""))
	}
	for what, list := range map[string][]api.Batch{
		"one object":                     {objects(blob("a"))},
		"an object 4096 times":           {objects(slices.Repeat([]api.Object{blob("a")}, 4096)...)},
		"4096 objects":                   {objects(many(4096, 0)...)},
		"a blob of no bytes, and of all": {objects(blob(""), blob(long(4096)))},
		"a name of 1 byte, and of 24":    {sets(put("k", "v"), put(long(24), "w"))},
		"a name of any bytes":            {sets(put("\x00/\xff\x80 ", "v"))},
		"values of 0 bytes and of 1024":  {sets(put("k", ""), put("l", long(1024))), sets(swap("k", "", long(1024)), swap("l", long(1024), "")), sets(drop("k", long(1024)), drop("l", ""))},
		"64 Sets":                        {sets(sets64...), sets(swaps...)},
		"a name that has nothing":        {sets(still("k")), sets(still("k"), put("l", ""))},
	} {
		p := format(t, 1000)
		for _, b := range list {
			p.commit(what, b, api.OK)
			p.commit(what+", and nothing", api.Batch{}, api.OK)
		}
		p.open(what)
	}
}

// P6.2: which objects come to stand where.
func TestCommitObjects(t *testing.T) {
	a, b, c := blob("a"), blob("b"), blob("c")
	f := folder(a, b)
	g := folder(f, c)
	one := commit(g, "one")
	two := commit(f, "two", one)
	three := commit(g, "three", two, one)
	p := format(t, 40)
	p.commit("links nowhere", objects(f), api.ErrNone)
	p.commit("links behind", objects(a, f, b), api.ErrNone)
	p.commit("the last link nowhere", objects(a, f), api.ErrNone)
	p.commit("a folder nowhere", objects(one), api.ErrNone)
	p.commit("all ahead, one twice", objects(b, a, b, f, a, f), api.OK)
	p.commit("all there", objects(f, a, b), api.OK)
	p.commit("some there", objects(f, c, a, g, c), api.OK)
	p.commit("a parent nowhere", objects(two), api.ErrNone)
	p.commit("a parent behind", objects(two, one), api.ErrNone)
	p.commit("parents", objects(one, two, three), api.OK)
	p.commit("a zero Id", objects(api.Object{Kind: api.ObjCommit}), api.ErrNone)
	var list []api.Id
	for _, h := range p.s.Heap().List {
		list = append(list, h.Id)
	}
	if !slices.Equal(list, ids(b, a, f, c, g, one, two, three)) {
		t.Errorf("the objects stand in another order")
	}
	p.open("behind that")
}

// P6.2: what is thought of a value, and what it is.
func TestCommitStale(t *testing.T) {
	p := format(t, 40)
	p.commit("Was of nothing", sets(swap("k", "", "v")), api.ErrStale)
	p.commit("Was of nothing, to go", sets(drop("k", "")), api.ErrStale)
	p.commit("k: v, e: nothing", sets(put("k", "v"), put("e", "")), api.OK)
	for what, x := range map[string]api.Set{
		"no Was":                   put("k", "v"),
		"no Was, of no bytes":      put("e", ""),
		"no Was, and no Is":        still("k"),
		"another Old":              swap("k", "w", "x"),
		"a shorter Old":            swap("k", "", "x"),
		"a longer Old":             swap("k", "vv", "x"),
		"an Old of another name":   swap("e", "v", "x"),
		"a name that has nothing":  drop("l", ""),
		"a name that begins so":    swap("kk", "v", "x"),
		"another Old that is kept": swap("k", "x", "x"),
	} {
		p.commit(what, sets(x), api.ErrStale)
		p.commit(what+", behind one that fits", sets(put("z", ""), x), api.ErrStale)
		p.commit(what+", with an object", api.Batch{Objects: []api.Object{blob("a")}, Sets: []api.Set{x}}, api.ErrStale)
	}
	p.commit("the same again", sets(swap("k", "v", "v")), api.OK)
	p.commit("others", sets(swap("k", "v", "w"), swap("e", "", "f"), put("g", "h")), api.OK)
	p.commit("gone", sets(drop("g", "h")), api.OK)
	p.commit("there again", sets(put("g", "i")), api.OK)
	p.open("behind that")
}

// P6.2: 64 names, and one more.
func TestCommitNames(t *testing.T) {
	p := format(t, 60)
	for i, name := range names(63) {
		p.commit("a name", sets(put(name, fmt.Sprint(i))), api.OK)
	}
	p.commit("two more", sets(put("y", ""), put("z", "")), api.ErrFull)
	p.commit("one more", sets(put("z", "")), api.OK)
	p.commit("one too many", sets(put("y", "")), api.ErrFull)
	p.commit("one too many, with an object", api.Batch{Objects: []api.Object{blob("a")}, Sets: []api.Set{put("y", "")}}, api.ErrFull)
	p.commit("one that is not set", sets(still("y")), api.OK)
	p.commit("another value", sets(swap("z", "", "v")), api.OK)
	p.commit("two for one", sets(put("x", ""), put("y", ""), drop("z", "v")), api.ErrFull)
	p.commit("one too many, and another value", sets(swap("z", "v", "w"), put("y", "")), api.ErrFull)
	p.commit("one too many, and one that is not set", sets(still("x"), put("y", "")), api.ErrFull)
	p.commit("one for one", sets(put("y", ""), drop("z", "v")), api.OK)
	p.commit("one for one, the old one ahead", sets(drop("y", ""), put("z", "")), api.OK)
	p.commit("one less", sets(drop("z", "")), api.OK)
	p.commit("64 again", sets(put("a", "")), api.OK)
	p.open("behind that")
}

// P6.2: what changes nothing is not written, though the power be gone.
func TestCommitNothing(t *testing.T) {
	p := format(t, 20)
	a := blob("a")
	p.commit("a", objects(a), api.OK)
	for _, d := range []*disk.Disk{p.s.Wal().Disk(), p.m.log.Disk()} {
		wantErr(t, "Arm", d.Arm(0), api.OK)
		wantErr(t, "Sync", d.Sync(), api.ErrDead)
	}
	p.commit("nothing", api.Batch{}, api.OK)
	p.commit("a again", objects(a), api.OK)
	p.commit("a again, and again", objects(a, a), api.OK)
	p.commit("a Set of nothing", sets(still("k")), api.ErrDead)
}

// P6.2, P6.3: of two errors the first one, and none of them writes.
func TestErrorsInOrder(t *testing.T) {
	a, b := blob("a"), blob("b")
	f := folder(a, b)
	var full []api.Set
	for _, name := range names(64) {
		full = append(full, put(name, ""))
	}
	p := format(t, 20)
	p.commit("64 names", api.Batch{Objects: []api.Object{a}, Sets: full}, api.OK)
	bad := api.Object{}
	stale, more := drop("z", ""), put("z", "")
	// The disk has no power, and the log does not know it yet: an error of its own would be ErrDead.
	for _, d := range []*disk.Disk{p.s.Wal().Disk(), p.m.log.Disk()} {
		wantErr(t, "Arm", d.Arm(0), api.OK)
		wantErr(t, "Sync", d.Sync(), api.ErrDead)
	}
	p.commit("ErrArg, ErrNone, ErrStale", api.Batch{Objects: []api.Object{f, bad}, Sets: []api.Set{stale}}, api.ErrArg)
	p.commit("ErrNone, ErrArg of a Set", api.Batch{Objects: []api.Object{f}, Sets: []api.Set{more, more}}, api.ErrArg)
	p.commit("ErrNone, ErrStale", api.Batch{Objects: []api.Object{f}, Sets: []api.Set{stale}}, api.ErrNone)
	p.commit("ErrNone, ErrFull", api.Batch{Objects: []api.Object{f}, Sets: []api.Set{more}}, api.ErrNone)
	p.commit("ErrFull, ErrStale", sets(more, drop("y", "")), api.ErrStale)
	p.commit("ErrFull, ErrDead", sets(more), api.ErrFull)
	p.commit("too long, ErrDead", objects(blob(long(1000))), api.ErrFull)
	p.sweep("ErrNone, ErrDead", ids(a, b), 0, api.ErrNone)
	p.commit("ErrDead", objects(b), api.ErrDead)
	// From here on the log is broken.
	p.commit("ErrIo, ErrArg", objects(bad), api.ErrIo)
	p.commit("ErrIo, nothing", api.Batch{}, api.ErrIo)
	p.sweep("ErrIo, ErrNone", ids(b), 0, api.ErrIo)
	p.sweep("ErrIo", nil, 0, api.ErrIo)
	var none *store.Store
	wantErr(t, "ErrNil, ErrArg", none.Commit(objects(bad)), api.ErrNil)
	if n, err := none.Sweep(ids(b)); n != 0 || err != api.ErrNil {
		t.Errorf("Sweep of nil: %d, error %d", n, err)
	}
}

// filled is a store with areas of so many sectors, of which just left ones are left, and one blob's worth of objects and one value in it.
func filled(t *testing.T, area, left int) *pair {
	t.Helper()
	p := format(t, area)
	p.commit("first", api.Batch{Objects: []api.Object{blob("first")}, Sets: []api.Set{put("k", "v")}}, api.OK)
	for p.s.Wal().Left() > left {
		p.commit("the same again", sets(swap("k", "v", "v")), api.OK)
	}
	if p.s.Wal().Left() != left {
		t.Fatalf("%d sectors left, want %d", p.s.Wal().Left(), left)
	}
	return p
}

// P6.2: a log with as many sectors left as are needed, and with one less.
func TestCommitLeft(t *testing.T) {
	for _, c := range []struct{ bytes, sectors int }{{1, 1}, {36, 1}, {37, 2}, {84, 2}, {85, 3}, {86, 3}} {
		// Eight bytes are those of the counts: 2, 2, 3, 1; four those of the frame's.
		b := objects(blob(long(c.bytes)))
		p := filled(t, 8, c.sectors)
		later := p.s.Wal().Len()
		p.commit("as many", b, api.OK)
		if w := p.s.Wal(); w.Turn() != 0 || w.Len() != later+1 || w.Left() != 0 {
			t.Errorf("%d bytes: turn %d, %d transactions, %d left", c.bytes, w.Turn(), w.Len(), w.Left())
		}
		p.open("as many")
		p = filled(t, 8, c.sectors-1)
		p.commit("one less", b, api.OK)
		if w := p.s.Wal(); w.Turn() != 1 || w.Len() != 0 {
			t.Errorf("%d bytes: turn %d, %d transactions", c.bytes, w.Turn(), w.Len())
		}
		p.open("one less")
	}
}

// padded is the batch with blobs behind its objects, so long that its bytes are n.
func padded(t *testing.T, b api.Batch, n int) api.Batch {
	t.Helper()
	b.Objects = slices.Clone(b.Objects)
	for {
		rest := n - len(laid(b))
		if rest <= 0 {
			t.Fatalf("no bytes are left")
		}
		// Five bytes are those of a blob's counts; what is left for the next one is enough.
		size := rest - 5
		if size > 4096 {
			size = min(4096, rest-100)
		}
		b.Objects = append(b.Objects, blob(fmt.Sprintf("%02d%s", len(b.Objects), long(size))[:size]))
		if len(laid(b)) == n {
			return b
		}
	}
}

// P6.2: a batch of MaxTx bytes is appended, one of one more is not, though there be room; the snapshot has no Old, and so fits.
func TestCommitMaxTx(t *testing.T) {
	for _, c := range []struct {
		bytes int
		turn  uint32
	}{{40000, 0}, {40001, 1}} {
		p := format(t, 1000)
		p.commit("k", sets(put("k", long(1024))), api.OK)
		b := padded(t, sets(swap("k", long(1024), "w")), c.bytes)
		if p.s.Wal().Left() < wal.Sectors(40000) {
			t.Fatalf("%d left", p.s.Wal().Left())
		}
		p.commit(fmt.Sprint(c.bytes, " bytes"), b, api.OK)
		if p.s.Wal().Turn() != c.turn {
			t.Errorf("%d bytes: turn %d", c.bytes, p.s.Wal().Turn())
		}
		p.open(fmt.Sprint(c.bytes, " bytes"))
	}
}

// P6.2: a snapshot of MaxTx bytes, and of one more, in areas that have room for both.
func TestCommitSnapshotMaxTx(t *testing.T) {
	for _, c := range []struct {
		bytes int
		want  api.Errno
	}{{40000, api.OK}, {40001, api.ErrFull}} {
		p := format(t, 1000)
		p.commit("k", sets(put("k", long(1024))), api.OK)
		for p.s.Wal().Left() > 100 {
			p.commit("k again", sets(swap("k", long(1024), long(1024))), api.OK)
		}
		b := padded(t, sets(put("k", long(1024))), c.bytes)
		b.Sets = nil
		p.commit(fmt.Sprint("a snapshot of ", c.bytes, " bytes"), b, c.want)
		if n := len(p.s.Wal().Snapshot()); c.want == api.OK && n != c.bytes {
			t.Errorf("a snapshot of %d bytes, want %d", n, c.bytes)
		}
		p.open("behind that")
	}
}

// P6.2: a snapshot that fills an area, and one that fills one sector more.
func TestCommitSnapshotArea(t *testing.T) {
	for _, c := range []struct {
		bytes int
		want  api.Errno
	}{{188, api.OK}, {189, api.ErrFull}} {
		p := format(t, 4)
		p.commit("k", sets(put("k", "v")), api.OK)
		b := padded(t, sets(put("k", "v")), c.bytes)
		b.Sets = nil
		p.commit("too much for what is left", b, c.want)
		if w := p.s.Wal(); c.want == api.OK && (len(w.Snapshot()) != c.bytes || w.Left() != 0) {
			t.Errorf("a snapshot of %d bytes, %d left", len(w.Snapshot()), w.Left())
		}
		p.commit("the next one", sets(swap("k", "v", "w")), api.OK)
		p.commit("what is there", b, c.want)
		p.open("behind that")
	}
}

// P6.2, P6.3: more objects than a batch may have do stand in transactions, but in no snapshot, as Open would refuse it.
func TestMoreObjectsThanABatch(t *testing.T) {
	p := format(t, 1000)
	all := many(4097, 0)
	p.commit("4096", objects(all[:4096]...), api.OK)
	p.commit("one more", objects(all[4096]), api.OK)
	p.open("4097")
	p.sweep("all", ids(all...), 0, api.ErrFull)
	var fill, empty []api.Set
	for _, name := range names(8) {
		fill = append(fill, put(name, long(1024)))
		empty = append(empty, drop(name, long(1024)))
	}
	p.commit("the log is filled", sets(fill...), api.OK)
	p.commit("the log is filled", sets(empty...), api.OK)
	for p.s.Wal().Left() > 0 {
		p.commit("the log is filled", sets(still("k")), api.OK)
	}
	p.commit("a value", sets(put("k", "v")), api.ErrFull)
	p.open("4097, and no room")
	p.sweep("all but one", ids(all[1:]...), 1, api.OK)
	p.open("4096 in a snapshot")
}

// P6.2, P6.3: the last turn of a log: what can be appended is, no checkpoint is made.
func TestLastTurn(t *testing.T) {
	d, _ := disk.New(10)
	head := append([]byte("shipwal1"), 0xff, 0xff, 0xff, 0xff, 0, 0, 0, 4)
	head = append(head, make([]byte, 44)...)
	sign := sha256.Sum256(head)
	wantErr(t, "Write", d.Write(1, api.Block(append(head, sign[:4]...))), api.OK)
	part := binary.BigEndian.AppendUint32(nil, math.MaxUint32)
	part = append(part, 0, 0, 0, 0, 0, 0, 0, 1)
	sign = sha256.Sum256(append(slices.Clone(part), make([]byte, 48)...))
	part = append(append(part, sign[:4]...), make([]byte, 48)...)
	wantErr(t, "Write", d.Write(6, api.Block(part)), api.OK)
	wantErr(t, "Sync", d.Sync(), api.OK)
	s, err := store.Open(d)
	wantErr(t, "Open", err, api.OK)
	for _, b := range []string{"a", "b", "c"} {
		wantErr(t, "Commit", s.Commit(objects(blob(b))), api.OK)
	}
	was, ops := tell(t, s), d.Ops()
	wantErr(t, "one too many", s.Commit(objects(blob("d"))), api.ErrFull)
	n, err := s.Sweep(ids(blob("a")))
	wantErr(t, "Sweep", err, api.ErrFull)
	if n != 0 || d.Ops() != ops || s.Broken() {
		t.Errorf("Sweep: %d, %d operations, Broken %v", n, d.Ops()-ops, s.Broken())
	}
	wantTold(t, "behind that", tell(t, s), was)
}

// P6.3: what stays and what goes.
func TestSweep(t *testing.T) {
	a, b, c, d := blob("a"), blob("b"), blob("c"), blob("d")
	f, g := folder(a, b), folder(b, c)
	h := folder(f, d)
	one := commit(f, "one")
	two := commit(g, "two", one)
	three := commit(h, "three", one, two)
	all := []api.Object{d, a, b, f, one, c, g, two, h, three}
	for _, x := range []struct {
		what  string
		roots []api.Object
		stay  []api.Object
	}{
		{"nothing", nil, nil},
		{"a blob", []api.Object{c}, []api.Object{c}},
		{"two, in another order, one twice", []api.Object{c, a, c}, []api.Object{a, c}},
		{"a folder", []api.Object{g}, []api.Object{b, c, g}},
		{"folders that share", []api.Object{g, f}, []api.Object{a, b, f, c, g}},
		{"a folder in a folder", []api.Object{h}, []api.Object{d, a, b, f, h}},
		{"a commit", []api.Object{one}, []api.Object{a, b, f, one}},
		{"a commit with a parent", []api.Object{two}, []api.Object{a, b, f, one, c, g, two}},
		{"a root that another one leads to", []api.Object{a, two, one}, []api.Object{a, b, f, one, c, g, two}},
		{"a commit with two parents", []api.Object{three}, all},
		{"all", all, all},
	} {
		p := format(t, 40)
		p.commit("all", api.Batch{Objects: all, Sets: []api.Set{put("l", "1"), put("k", "2")}}, api.OK)
		p.sweep(x.what, ids(x.roots...), len(all)-len(x.stay), api.OK)
		var list []api.Id
		for _, h := range p.s.Heap().List {
			list = append(list, h.Id)
		}
		if !slices.Equal(list, ids(x.stay...)) {
			t.Errorf("Sweep to %s: others have stayed, or in another order", x.what)
		}
		if w := p.s.Wal(); w.Turn() != 1 || w.Len() != 0 || string(w.Snapshot()) != string(laid(api.Batch{Objects: x.stay, Sets: []api.Set{put("k", "2"), put("l", "1")}})) {
			t.Errorf("Sweep to %s: turn %d, the snapshot %x", x.what, w.Turn(), w.Snapshot())
		}
		for _, o := range all {
			_, err := p.s.Get(id(o))
			if there := slices.Contains(list, id(o)); there != (err == api.OK) || !there && err != api.ErrNone {
				t.Errorf("Sweep to %s: Get: error %d", x.what, err)
			}
		}
		p.sweep("no Id", []api.Id{{1}}, 0, api.ErrNone)
		p.sweep("no Id behind others", append(ids(x.stay...), api.Id{}), 0, api.ErrNone)
		p.sweep("again", list, 0, api.OK)
		p.open(x.what)
		p.commit("put again", objects(all...), api.OK)
		p.open("put again")
	}
}

// P6.3: of a store with nothing, and of one whose values alone there are.
func TestSweepNothing(t *testing.T) {
	p := format(t, 4)
	p.sweep("nothing", nil, 0, api.OK)
	p.sweep("a root", []api.Id{{}}, 0, api.ErrNone)
	wantBytes(t, "the snapshot", p.s.Wal().Snapshot(), []byte{0, 0, 0})
	p.open("nothing")
	p.commit("k", sets(put("k", "v")), api.OK)
	p.sweep("a value", nil, 0, api.OK)
	p.open("a value")
	if v, ok := p.s.Value("k"); !ok || string(v) != "v" {
		t.Errorf("Value: %q, %v", v, ok)
	}
}

// P6.3: links that come together again and again are followed once.
func TestSweepTwofold(t *testing.T) {
	p := format(t, 200)
	list := []api.Object{blob("a")}
	for range 60 {
		last := list[len(list)-1]
		list = append(list, folder(last, last))
	}
	p.commit("all", objects(append(slices.Clone(list), blob("b"))...), api.OK)
	p.sweep("the last one", ids(list[60]), 1, api.OK)
	p.sweep("one of them", ids(list[40]), 20, api.OK)
	p.open("one of them")
}

// P6.3: a checkpoint that is too long is ErrFull, and nothing goes.
func TestSweepFull(t *testing.T) {
	p := format(t, 1000)
	var list []api.Object
	for i := range 11 {
		list = append(list, blob(fmt.Sprintf("%02d%s", i, long(4000))))
	}
	p.commit("half", objects(list[:6]...), api.OK)
	p.commit("the other half", objects(list[6:]...), api.OK)
	p.sweep("all", ids(list...), 0, api.ErrFull)
	p.sweep("ten", ids(list[1:]...), 0, api.ErrFull)
	p.open("ErrFull")
	p.sweep("nine", ids(list[2:]...), 2, api.OK)
	p.open("nine")
	// What stays takes the room of what is to come, till it is swept.
	p = format(t, 4)
	p.commit("much", objects(blob(long(132))), api.OK)
	p.sweep("much", ids(blob(long(132))), 0, api.OK)
	p.commit("little", sets(put("k", "v")), api.OK)
	p.commit("more", sets(put("l", long(40))), api.ErrFull)
	p.sweep("without it", nil, 1, api.OK)
	p.commit("more", sets(put("l", long(40))), api.OK)
}

// P6.4: what is told, and of nil.
func TestTold(t *testing.T) {
	p := format(t, 40)
	d := p.s.Wal().Disk()
	p.commit("three names", sets(put("b", "2"), put("aa", "1"), put("\xff", "4"), put("a", ""), put("B", "3")), api.OK)
	if list := p.s.Names(); !slices.Equal(list, []string{"B", "a", "aa", "b", "\xff"}) {
		t.Errorf("Names: %q", list)
	}
	if v, ok := p.s.Value("a"); !ok || len(v) != 0 {
		t.Errorf("Value of a: %q, %v", v, ok)
	}
	for _, name := range []string{"", "c", "aaa", long(25)} {
		if v, ok := p.s.Value(name); ok || len(v) != 0 {
			t.Errorf("Value of %q: %q, %v", name, v, ok)
		}
	}
	if o, err := p.s.Get(api.Id{}); err != api.ErrNone || !reflect.DeepEqual(o, api.Object{}) {
		t.Errorf("Get of no Id: %v, error %d", o, err)
	}
	if p.s.Broken() || p.s.Wal() == nil || p.s.Wal() != p.s.Wal() || p.s.Wal().Disk() != d {
		t.Errorf("Broken %v, Wal %v", p.s.Broken(), p.s.Wal())
	}
	var none *store.Store
	if o, err := none.Get(api.Id{}); err != api.ErrNil || !reflect.DeepEqual(o, api.Object{}) {
		t.Errorf("Get of nil: %v, error %d", o, err)
	}
	if v, ok := none.Value("a"); ok || len(v) != 0 {
		t.Errorf("Value of nil: %q, %v", v, ok)
	}
	if len(none.Names()) != 0 || len(none.Heap().List) != 0 || none.Broken() || none.Wal() != nil {
		t.Errorf("of nil something is told")
	}
}

// scribble lays other bytes over all of a list, the room behind its end too.
func scribble(o api.Object) {
	for i := range o.Bytes[:cap(o.Bytes)] {
		o.Bytes[:cap(o.Bytes)][i] ^= 0xff
	}
	for i := range o.Entries[:cap(o.Entries)] {
		o.Entries[:cap(o.Entries)][i] = api.Entry{Name: "scribbled"}
	}
	for i := range o.Parents[:cap(o.Parents)] {
		o.Parents[:cap(o.Parents)][i] = api.Id{9}
	}
}

func scribbleBytes(b []byte) {
	for i := range b[:cap(b)] {
		b[:cap(b)][i] ^= 0xff
	}
}

// R3: what is handed in is not changed and not kept, the room behind its end neither; what is told shares nothing.
func TestMemory(t *testing.T) {
	room := func(s string) []byte { return append(make([]byte, 0, 60), s...) }
	a := api.Object{Kind: api.ObjBlob, Bytes: room("a")}
	f := api.Object{Kind: api.ObjTree, Entries: append(make([]api.Entry, 0, 5), folder(a).Entries...)}
	one := commit(f, "one")
	two := commit(f, "two", one, one)
	two.Parents = append(make([]api.Id, 0, 5), two.Parents...)
	b := api.Batch{Objects: append(make([]api.Object, 0, 9), a, f, one, two, a), Sets: append(make([]api.Set, 0, 9), api.Set{Name: "k", Is: true, New: room("v")})}
	whole := func() string {
		return fmt.Sprintf("%v %v %v %v %v", b.Objects[:9], b.Sets[:9], a.Bytes[:60], f.Entries[:5], two.Parents[:5])
	}
	was := whole()
	p := format(t, 40)
	p.commit("all", b, api.OK)
	list, err := store.Encode(b)
	if err != api.OK || whole() != was {
		t.Errorf("Commit or Encode has changed what was handed in, error %d", err)
	}
	seen := tell(t, p.s)
	for _, o := range b.Objects {
		scribble(o)
	}
	scribbleBytes(b.Sets[0].New)
	wantTold(t, "behind a change of the batch", tell(t, p.s), seen)
	for i := range p.s.Heap().List {
		heap := p.s.Heap()
		scribble(heap.List[i].Object)
		for j, h := range heap.List {
			if o, _ := p.s.Get(h.Id); j != i && !object.Same(o, h.Object) {
				t.Errorf("a change of what Heap told at %d changes %d", i, j)
			}
		}
		o, _ := p.s.Get(heap.List[i].Id)
		scribble(o)
		heap.List[i] = api.Held{}
	}
	v, _ := p.s.Value("k")
	scribbleBytes(v)
	p.s.Names()[0] = "other"
	wantTold(t, "behind a change of what was told", tell(t, p.s), seen)
	root := append(make([]api.Id, 0, 4), p.s.Heap().List[3].Id)
	if _, err := p.s.Sweep(root); err != api.OK || !reflect.DeepEqual(root[:4], []api.Id{p.s.Heap().List[3].Id, {}, {}, {}}) {
		t.Errorf("Sweep has changed its roots, error %d", err)
	}
	again := slices.Clone(list)
	x, err := store.Decode(again)
	wantErr(t, "Decode", err, api.OK)
	scribbleBytes(again)
	wantBytes(t, "Decode, its bytes changed", laid(x), list)
	for i := range x.Objects {
		y, _ := store.Decode(list)
		scribble(y.Objects[i])
		scribbleBytes(y.Sets[0].New)
		for j := range x.Objects {
			if j != i && !object.Same(x.Objects[j], y.Objects[j]) {
				t.Errorf("Decode: lists share memory")
			}
		}
	}
}

// R3: a batch that is handed in through a checkpoint is not kept either.
func TestMemoryOfCheckpoint(t *testing.T) {
	p := filled(t, 8, 0)
	bytes := []byte("second")
	value := []byte("w")
	wantErr(t, "Commit", p.s.Commit(api.Batch{Objects: []api.Object{{Kind: api.ObjBlob, Bytes: bytes}}, Sets: []api.Set{{Name: "l", Is: true, New: value}}}), api.OK)
	was := tell(t, p.s)
	scribbleBytes(bytes)
	scribbleBytes(value)
	wantTold(t, "behind a change of the batch", tell(t, p.s), was)
}

// samples are batches of all sorts.
func samples() []api.Batch {
	a := blob("a")
	f := folder(a, a)
	return []api.Batch{
		{},
		objects(a),
		objects(blob(""), folder()),
		objects(f, commit(f, "note", a), a),
		sets(put("k", "v")),
		sets(still("k"), drop("name", ""), swap("z", "old", "newer")),
		{Objects: []api.Object{a, a}, Sets: []api.Set{put("b", "xy"), put("a", "")}},
	}
}

// P6.5: the bytes of a batch, written out.
func TestEncode(t *testing.T) {
	b := api.Batch{Objects: []api.Object{blob("ab"), folder()}, Sets: []api.Set{swap("k", "\x07", "\x08\x09"), put("lm", ""), drop("n", "o"), still("p")}}
	want := []byte{0, 2, 0, 5, 1, 0, 2, 'a', 'b', 0, 2, 2, 0, 4,
		1, 'k', 1, 0, 1, 7, 1, 0, 2, 8, 9,
		2, 'l', 'm', 0, 0, 0, 1, 0, 0,
		1, 'n', 1, 0, 1, 'o', 0, 0, 0,
		1, 'p', 0, 0, 0, 0, 0, 0}
	got, err := store.Encode(b)
	wantErr(t, "Encode", err, api.OK)
	wantBytes(t, "Encode", got, want)
	for _, b := range samples() {
		got, err := store.Encode(b)
		wantErr(t, "Encode", err, api.OK)
		wantBytes(t, "Encode", got, laid(b))
	}
	var sets64 []api.Set
	for _, name := range names(64) {
		sets64 = append(sets64, swap(name+long(21), long(1024), long(1024)))
	}
	big := api.Batch{Objects: slices.Repeat([]api.Object{blob(long(4096))}, 4096), Sets: sets64}
	got, err = store.Encode(big)
	wantErr(t, "Encode of the longest", err, api.OK)
	wantBytes(t, "Encode of the longest", got, laid(big))
	x, err := store.Decode(got)
	wantErr(t, "Decode of the longest", err, api.OK)
	wantBytes(t, "Decode of the longest", laid(x), got)
	if got, err := store.Encode(objects(api.Object{})); err != api.ErrArg || got != nil {
		t.Errorf("Encode of what may not be: %v, error %d", got, err)
	}
}

// cut goes through bytes by their counts.
type cut struct {
	rest  []byte
	short bool
}

func (c *cut) take(n int) []byte {
	if c.short || n > len(c.rest) {
		c.short = true
		return nil
	}
	part := c.rest[:n]
	c.rest = c.rest[n:]
	return part
}

func (c *cut) count(n int) int {
	x := 0
	for _, b := range c.take(n) {
		x = x*256 + int(b)
	}
	return x
}

// wanted is what Decode is to answer, by the words of P6.5, in their order.
func wanted(b []byte) (api.Batch, api.Errno) {
	c := &cut{rest: b}
	var batch api.Batch
	right := true
	for n := c.count(2); n > 0 && !c.short; n-- {
		o, err := object.Decode(c.take(c.count(2)))
		right = right && err == api.OK
		batch.Objects = append(batch.Objects, o)
	}
	for n := c.count(1); n > 0 && !c.short; n-- {
		var x api.Set
		x.Name = string(c.take(c.count(1)))
		was := c.count(1)
		x.Old = c.take(c.count(2))
		is := c.count(1)
		x.New = c.take(c.count(2))
		x.Was, x.Is = was == 1, is == 1
		right = right && was < 2 && is < 2
		batch.Sets = append(batch.Sets, x)
	}
	switch {
	case c.short:
		return api.Batch{}, api.ErrShort
	case !right || len(c.rest) > 0 || !may(batch):
		return api.Batch{}, api.ErrArg
	}
	return batch, api.OK
}

func wantDecode(t *testing.T, b []byte) {
	t.Helper()
	was := slices.Clone(b)
	got, err := store.Decode(b)
	want, wantErr := wanted(b)
	if err != wantErr {
		t.Fatalf("Decode(% x): error %d, want %d", was, err, wantErr)
	}
	if err != api.OK && !reflect.DeepEqual(got, api.Batch{}) {
		t.Fatalf("Decode(% x): error %d, and %v", was, err, got)
	}
	if err == api.OK && (!bytes.Equal(laid(got), was) || !bytes.Equal(laid(want), was)) {
		t.Fatalf("Decode(% x): %v, want %v", was, got, want)
	}
	wantBytes(t, "Decode's argument", b, was)
}

// P6.5: each beginning of a batch's bytes, these with bytes behind them, and each byte of them made each other one.
func TestDecode(t *testing.T) {
	for _, b := range samples() {
		whole := laid(b)
		wantDecode(t, whole)
		if x, err := store.Decode(whole); err != api.OK || len(x.Objects) != len(b.Objects) || len(x.Sets) != len(b.Sets) {
			t.Fatalf("Decode(% x): %v, error %d", whole, x, err)
		}
		for n := range whole {
			if _, err := store.Decode(whole[:n]); err != api.ErrShort {
				t.Fatalf("Decode of the first %d bytes of % x: error %d", n, whole, err)
			}
		}
		for _, more := range [][]byte{{0}, {1}, {255}, {0, 0, 0}, whole} {
			if _, err := store.Decode(slices.Concat(whole, more)); err != api.ErrArg {
				t.Fatalf("Decode of more than % x: error %d", whole, err)
			}
		}
		for i := range whole {
			for x := range 256 {
				other := slices.Clone(whole)
				other[i] = byte(x)
				wantDecode(t, other)
				wantDecode(t, slices.Concat(other, make([]byte, 70)))
			}
		}
	}
}

// P6.5: which of ErrShort and ErrArg is told, where both could be thought of.
func TestDecodeErrors(t *testing.T) {
	var sets65 []api.Set
	for _, name := range names(65) {
		sets65 = append(sets65, still(name))
	}
	for _, c := range []struct {
		what string
		b    []byte
		want api.Errno
	}{
		{"no bytes", nil, api.ErrShort},
		{"half a count", []byte{0}, api.ErrShort},
		{"no Sets' count", []byte{0, 0}, api.ErrShort},
		{"nothing", []byte{0, 0, 0}, api.OK},
		{"a byte more", []byte{0, 0, 0, 0}, api.ErrArg},
		{"5000 objects that are not there", []byte{0x13, 0x88, 0}, api.ErrShort},
		{"200 Sets that are not there", []byte{0, 0, 200, 1, 'k'}, api.ErrShort},
		{"an object of no bytes", []byte{0, 1, 0, 0, 0}, api.ErrArg},
		{"an object of no bytes, and no Sets' count", []byte{0, 1, 0, 0}, api.ErrShort},
		{"an object that ends early by its own count", []byte{0, 1, 0, 3, 1, 0, 1, 0}, api.ErrArg},
		{"an object that is no object, cut off behind it", []byte{0, 1, 0, 3, 9, 0, 1}, api.ErrShort},
		{"an object that goes on behind its end", []byte{0, 1, 0, 4, 1, 0, 0, 0, 0}, api.ErrArg},
		{"a Was of 2, cut off behind it", []byte{0, 0, 1, 1, 'k', 2, 0, 0, 0, 0}, api.ErrShort},
		{"a Was of 2", []byte{0, 0, 1, 1, 'k', 2, 0, 0, 0, 0, 0}, api.ErrArg},
		{"an Is of 2", []byte{0, 0, 1, 1, 'k', 0, 0, 0, 2, 0, 0}, api.ErrArg},
		{"an Old of noughts where Was is false", []byte{0, 0, 1, 1, 'k', 0, 0, 1, 0, 0, 0, 0}, api.ErrArg},
		{"a New where Is is false", []byte{0, 0, 1, 1, 'k', 0, 0, 0, 0, 0, 1, 0}, api.ErrArg},
		{"a name of no bytes", []byte{0, 0, 1, 0, 0, 0, 0, 0, 0, 0}, api.ErrArg},
		{"a name of 24 bytes", laid(sets(put(long(24), ""))), api.OK},
		{"a name of 25 bytes", laid(sets(put(long(25), ""))), api.ErrArg},
		{"a name of 25 bytes, cut off", laid(sets(put(long(25), "")))[:33], api.ErrShort},
		{"a name twice", laid(sets(put("k", ""), put("k", "v"))), api.ErrArg},
		{"an Old and a New of 1024 bytes", laid(sets(swap("k", long(1024), long(1024)))), api.OK},
		{"an Old of 1025 bytes", laid(sets(swap("k", long(1025), ""))), api.ErrArg},
		{"a New of 1025 bytes", laid(sets(swap("k", "", long(1025)))), api.ErrArg},
		{"64 Sets", laid(sets(sets65[:64]...)), api.OK},
		{"65 Sets", laid(sets(sets65...)), api.ErrArg},
		{"4096 objects", laid(objects(many(4096, 0)...)), api.OK},
		{"4097 objects", laid(objects(many(4097, 0)...)), api.ErrArg},
		{"65535 objects", append(slices.Concat([]byte{255, 255}, bytes.Repeat([]byte{0, 2, 2, 0}, 65535)), 0), api.ErrArg},
	} {
		x, err := store.Decode(c.b)
		if err != c.want {
			t.Errorf("Decode of %s: error %d, want %d", c.what, err, c.want)
		}
		if err != api.OK && !reflect.DeepEqual(x, api.Batch{}) {
			t.Errorf("Decode of %s: an error, and a batch", c.what)
		}
		wantDecode(t, c.b)
	}
}
