package object_test

import (
	"bytes"
	"crypto/sha256"
	"encoding/binary"
	"fmt"
	"math"
	"math/rand"
	"reflect"
	"slices"
	"strings"
	"testing"

	"shipwright/api"
	"shipwright/object"
)

// What an object is that may be, and what its bytes are, is said here anew from the chapter's words, so that the tests do not lean on what they test.

const nameSigns = "abcdefghijklmnopqrstuvwxyzABCDEFGHIJKLMNOPQRSTUVWXYZ0123456789._-"

// mayName says whether a text may be an entry's name.
func mayName(s string) bool {
	if len(s) < 1 || len(s) > 24 || s == "." || s == ".." {
		return false
	}
	for i := 0; i < len(s); i++ {
		if strings.IndexByte(nameSigns, s[i]) < 0 {
			return false
		}
	}
	return true
}

// may says whether an object may be.
func may(o api.Object) bool {
	blob := len(o.Bytes) == 0
	tree := len(o.Entries) == 0
	commit := o.Tree == api.Id{} && len(o.Parents) == 0 && o.Number == 0 && o.Note == ""
	switch o.Kind {
	case 1:
		return tree && commit && len(o.Bytes) <= 4096
	case 2:
		for i, e := range o.Entries {
			if !mayName(e.Name) || i > 0 && strings.Compare(o.Entries[i-1].Name, e.Name) >= 0 {
				return false
			}
		}
		return blob && commit && len(o.Entries) <= 32
	case 3:
		return blob && tree && len(o.Parents) <= 2 && len(o.Note) <= 200
	}
	return false
}

// laid are an object's bytes, of one that may not be, too, as far as its counts can be laid.
func laid(o api.Object) []byte {
	b := []byte{byte(o.Kind)}
	switch o.Kind {
	case 1:
		b = binary.BigEndian.AppendUint16(b, uint16(len(o.Bytes)))
		b = append(b, o.Bytes...)
	case 2:
		b = append(b, byte(len(o.Entries)))
		for _, e := range o.Entries {
			b = append(b, byte(len(e.Name)))
			b = append(b, e.Name...)
			if e.Folder {
				b = append(b, 1)
			} else {
				b = append(b, 0)
			}
			b = append(b, e.Id[:]...)
		}
	case 3:
		b = append(b, o.Tree[:]...)
		b = append(b, byte(len(o.Parents)))
		for _, id := range o.Parents {
			b = append(b, id[:]...)
		}
		b = binary.BigEndian.AppendUint32(b, o.Number)
		b = append(b, byte(len(o.Note)))
		b = append(b, o.Note...)
	}
	return b
}

// size is how many bytes that has which b begins with; false, if b ends ahead of that. It goes by the counts alone.
func size(b []byte) (int, bool) {
	at := 1
	count := func() int {
		at++
		if at > len(b) {
			return 0
		}
		return int(b[at-1])
	}
	switch b[0] {
	case 1:
		n := count() << 8
		n += count()
		at += n
	case 2:
		for n := count(); n > 0; n-- {
			at += count()
			at += 1 + 32
		}
	case 3:
		at += 32
		at += 32 * count()
		at += 4
		at += count()
	}
	return at, at <= len(b)
}

// taken is the object whose bytes b is, going by the counts alone, which size has held against b.
func taken(b []byte) api.Object {
	o := api.Object{Kind: int(b[0])}
	switch o.Kind {
	case 1:
		o.Bytes = b[3:]
	case 2:
		rest := b[2:]
		for range int(b[1]) {
			n := int(rest[0])
			o.Entries = append(o.Entries, api.Entry{Name: string(rest[1 : 1+n]), Folder: rest[1+n] == 1, Id: api.Id(rest[2+n:])})
			rest = rest[2+n+32:]
		}
	case 3:
		o.Tree = api.Id(b[1:])
		rest := b[34:]
		for range int(b[33]) {
			o.Parents = append(o.Parents, api.Id(rest))
			rest = rest[32:]
		}
		o.Number = binary.BigEndian.Uint32(rest)
		o.Note = string(rest[5:])
	}
	return o
}

// wanted is what Decode is to answer, by the words of P5.3, in their order.
func wanted(b []byte) (api.Object, api.Errno) {
	if len(b) == 0 {
		return api.Object{}, api.ErrShort
	}
	if b[0] < 1 || b[0] > 3 {
		return api.Object{}, api.ErrObject
	}
	n, whole := size(b)
	if !whole {
		return api.Object{}, api.ErrShort
	}
	if n < len(b) {
		return api.Object{}, api.ErrObject
	}
	o := taken(b)
	if !may(o) || !bytes.Equal(laid(o), b) {
		return api.Object{}, api.ErrObject
	}
	return o, api.OK
}

func id(n byte) api.Id {
	var d api.Id
	for i := range d {
		d[i] = n + byte(i)
	}
	return d
}

func blob(n int) api.Object {
	b := make([]byte, n)
	for i := range b {
		b[i] = byte(i*7 + i/251)
	}
	return api.Object{Kind: api.ObjBlob, Bytes: b}
}

func folder(names ...string) api.Object {
	o := api.Object{Kind: api.ObjTree}
	for i, s := range names {
		o.Entries = append(o.Entries, api.Entry{Name: s, Folder: i%2 == 1, Id: id(byte(40 + i))})
	}
	return o
}

// rising are n names that rise.
func rising(n int) []string {
	var list []string
	for i := range n {
		list = append(list, fmt.Sprintf("n%03d", i))
	}
	return list
}

func commit(parents int, number uint32, note string) api.Object {
	o := api.Object{Kind: api.ObjCommit, Tree: id(1), Number: number, Note: note}
	for i := range parents {
		o.Parents = append(o.Parents, id(byte(100+i)))
	}
	return o
}

// good are objects that may be.
func good() []api.Object {
	long := strings.Repeat("n", 24)
	return []api.Object{
		blob(0), blob(1), blob(2), blob(255), blob(256), blob(257), blob(4095), blob(4096),
		{Kind: api.ObjBlob, Bytes: []byte("\x00\xff\xfe\x80")},
		folder(), folder("a"), folder(long), folder("a.go"), folder("...", "..a", ".a"), folder("-", "_"), folder("-", ".a", "0", "A", "_", "a"),
		folder("a", "a-", "a.", "a.b", "a0", "aA", "a_", "aa", "ab", "b"),
		folder(rising(2)...), folder(rising(31)...), folder(rising(32)...),
		{Kind: api.ObjTree, Entries: []api.Entry{{Name: "zero"}}},
		{Kind: api.ObjTree, Entries: []api.Entry{{Name: "a", Id: id(1)}, {Name: "b", Id: id(1), Folder: true}}},
		{Kind: api.ObjCommit},
		commit(0, 0, ""), commit(0, 7, "first"), commit(1, 1, "n"), commit(1, 0, "a\nb"), commit(2, 0x01020304, "both"),
		commit(2, math.MaxUint32, strings.Repeat("x", 200)), commit(1, math.MaxUint32-1, strings.Repeat("\xff\x00", 100)),
		commit(2, 3, "ä€𝄞\xc3"),
		{Kind: api.ObjCommit, Tree: id(1), Parents: []api.Id{id(2), id(2)}, Number: 1},
		{Kind: api.ObjCommit, Tree: id(1), Parents: []api.Id{{}}, Number: 1},
	}
}

// bad are objects that may not be.
func bad() []api.Object {
	var list []api.Object
	for _, kind := range []int{0, -1, -2, -255, 4, 5, 255, 256, 257, 258, 259, 1 << 32, 1<<32 + 1, math.MaxInt, math.MinInt, math.MinInt + 1} {
		list = append(list, api.Object{Kind: kind})
		for _, o := range []api.Object{blob(3), folder("a"), commit(1, 2, "n")} {
			o.Kind = kind
			list = append(list, o)
		}
	}
	list = append(list, blob(4097), blob(5000), blob(65535), blob(65536), blob(65536+3))
	list = append(list, folder(rising(33)...), folder(rising(255)...), folder(rising(256)...), folder(rising(257)...))
	for _, names := range [][]string{
		{""}, {"."}, {".."}, {"a/b"}, {"a b"}, {"ä"}, {"\xff"}, {strings.Repeat("n", 25)}, {strings.Repeat("n", 256)}, {strings.Repeat("n", 256+3)},
		{"a", "a"}, {"b", "a"}, {"ab", "a"}, {"a", "B"}, {"a", "b", "b"}, {"a", "c", "b"}, {"b", "c", "a"}, {"a", "b", "a"}, {"a", "b", ""}, {"", "a"},
		{"ab", "aa"}, {"aab", "aab"}, {"a", "ac", "ab"}, {strings.Repeat("n", 23) + "b", strings.Repeat("n", 23) + "a"},
		{".", "a"}, {"-", "."}, {"-", "..", "a"}, {"a", "b", "c/"},
	} {
		list = append(list, folder(names...))
	}
	list = append(list, commit(3, 1, ""), commit(4, 1, ""), commit(256, 1, ""), commit(258, 1, ""))
	list = append(list, commit(0, 0, strings.Repeat("x", 201)), commit(2, 9, strings.Repeat("x", 255)), commit(0, 0, strings.Repeat("x", 256)), commit(0, 0, strings.Repeat("x", 256+7)))
	for _, o := range []api.Object{blob(0), blob(2), folder(), folder("a", "b"), {Kind: api.ObjCommit}, commit(2, 5, "n")} {
		for _, change := range strays(o.Kind) {
			p := o
			change(&p)
			list = append(list, p)
		}
	}
	return list
}

// strays set each field that does not count for a Kind to something else than zero, each alone.
func strays(kind int) []func(o *api.Object) {
	var list []func(o *api.Object)
	if kind != api.ObjBlob {
		list = append(list, func(o *api.Object) { o.Bytes = []byte{0} })
	}
	if kind != api.ObjTree {
		list = append(list, func(o *api.Object) { o.Entries = []api.Entry{{}} }, func(o *api.Object) { o.Entries = []api.Entry{{Name: "a", Id: id(3)}} })
	}
	if kind != api.ObjCommit {
		list = append(list,
			func(o *api.Object) { o.Tree[0] = 1 },
			func(o *api.Object) { o.Tree[31] = 1 },
			func(o *api.Object) { o.Parents = []api.Id{{}} },
			func(o *api.Object) { o.Number = 1 },
			func(o *api.Object) { o.Number = 1 << 31 },
			func(o *api.Object) { o.Note = "n" },
			func(o *api.Object) { o.Note = "\x00" })
	}
	return list
}

// short is an object in few words, for what a test tells.
func short(o api.Object) string {
	s := fmt.Sprintf("%+v", o)
	return fmt.Sprintf("%+q", s[:min(len(s), 200)])
}

func isZero(o api.Object) bool {
	return o.Kind == 0 && len(o.Bytes) == 0 && len(o.Entries) == 0 && o.Tree == api.Id{} && len(o.Parents) == 0 && o.Number == 0 && o.Note == ""
}

// alike holds objects against each other, nil and empty lists being one.
func alike(a, b api.Object) bool {
	for _, o := range []*api.Object{&a, &b} {
		if len(o.Bytes) == 0 {
			o.Bytes = nil
		}
		if len(o.Entries) == 0 {
			o.Entries = nil
		}
		if len(o.Parents) == 0 {
			o.Parents = nil
		}
	}
	return reflect.DeepEqual(a, b)
}

func copied(o api.Object) api.Object {
	o.Bytes = slices.Clone(o.Bytes)
	o.Entries = slices.Clone(o.Entries)
	o.Parents = slices.Clone(o.Parents)
	return o
}

// wantDecode holds Decode of b against what is wanted of it.
func wantDecode(t *testing.T, b []byte) api.Errno {
	t.Helper()
	o, e := object.Decode(b)
	p, f := wanted(b)
	if e != f {
		t.Fatalf("Decode of %x: %d, want %d", b, e, f)
	}
	if !alike(o, p) {
		t.Fatalf("Decode of %x: %s, want %s", b, short(o), short(p))
	}
	return e
}

// The chapter's examples.
func TestExamples(t *testing.T) {
	for _, q := range []struct {
		o api.Object
		b []byte
	}{
		{api.Object{Kind: api.ObjBlob, Bytes: []byte{0x61}}, []byte{1, 0, 1, 0x61}},
		{api.Object{Kind: api.ObjTree}, []byte{2, 0}},
	} {
		if b, e := object.Encode(q.o); e != api.OK || !bytes.Equal(b, q.b) {
			t.Errorf("Encode of %s: %x, %d", short(q.o), b, e)
		}
		if d, e := object.Id(q.o); e != api.OK || d != sha256.Sum256(q.b) {
			t.Errorf("Id of %s: %x, %d", short(q.o), d, e)
		}
	}
	for _, q := range []struct {
		b []byte
		e api.Errno
	}{
		{[]byte{4}, api.ErrObject}, {[]byte{1, 0}, api.ErrShort}, {[]byte{2, 0, 0}, api.ErrObject}, {nil, api.ErrShort}, {[]byte{}, api.ErrShort},
	} {
		if o, e := object.Decode(q.b); e != q.e || !isZero(o) {
			t.Errorf("Decode of %x: %s, %d, want %d", q.b, short(o), e, q.e)
		}
	}
	if !object.Name("a.go") || object.Name("..") || object.Name("a/b") {
		t.Error("Name")
	}
}

// P5.1: the Kinds and the limits are those that the chapter says.
func TestConstants(t *testing.T) {
	if api.ObjBlob != 1 || api.ObjTree != 2 || api.ObjCommit != 3 || api.MaxEntries != 32 || api.MaxNote != 200 || api.MaxName != 24 || api.MaxText != 4096 {
		t.Error("the constants of the layer")
	}
}

// P5.1: Check of what may be, and of what may not.
func TestCheck(t *testing.T) {
	for _, o := range good() {
		if e := object.Check(o); e != api.OK {
			t.Errorf("Check of %s: %d", short(o), e)
		}
	}
	for _, o := range bad() {
		if e := object.Check(o); e != api.ErrObject {
			t.Errorf("Check of %s: %d", short(o), e)
		}
	}
}

// P5.1: lists that do not count are zero when they are empty, too (R3).
func TestCheckEmptyLists(t *testing.T) {
	for _, o := range []api.Object{blob(2), folder("a"), commit(1, 2, "n"), blob(0), folder(), commit(0, 0, "")} {
		if len(o.Bytes) == 0 {
			o.Bytes = []byte{}
		}
		if len(o.Entries) == 0 {
			o.Entries = make([]api.Entry, 0, 3)
		}
		if len(o.Parents) == 0 {
			o.Parents = []api.Id{}
		}
		if e := object.Check(o); e != api.OK {
			t.Errorf("Check of %s: %d", short(o), e)
		}
	}
}

// P5.1: each byte, alone and at each place of a name.
func TestNameBytes(t *testing.T) {
	allowed := 0
	for c := range 256 {
		alone := string([]byte{byte(c)})
		want := strings.IndexByte(nameSigns, byte(c)) >= 0
		if want {
			allowed++
		}
		if got := object.Name(alone); got != (want && c != '.') {
			t.Errorf("Name(%q): %v", alone, got)
		}
		for _, around := range [][2]string{{"a", ""}, {"", "a"}, {"a", "b"}, {"..", ""}, {"", ".."}, {strings.Repeat("Z", 23), ""}, {"", strings.Repeat("9", 23)}} {
			s := around[0] + alone + around[1]
			if got := object.Name(s); got != want {
				t.Errorf("Name(%q): %v", s, got)
			}
		}
	}
	if allowed != 26+26+10+3 {
		t.Errorf("%d bytes may stand in a name", allowed)
	}
}

// P5.1: how long names are, and the names that are none.
func TestNameEdges(t *testing.T) {
	for n := range 300 {
		if got := object.Name(strings.Repeat("a", n)); got != (n >= 1 && n <= 24) {
			t.Errorf("Name of %d bytes: %v", n, got)
		}
		if got := object.Name(strings.Repeat(".", n)); got != (n >= 3 && n <= 24) {
			t.Errorf("Name of %d dots: %v", n, got)
		}
	}
	for s, want := range map[string]bool{
		"": false, ".": false, "..": false, "...": true, ".a": true, "..a": true, "a.": true, "a..": true, "-": true, "_": true, "._": true, ".-": true,
		"ä": false, "aä": false, "€": false, "𝄞": false, "\xff": false, "a\x80": false, "\xc3": false, "\xe2\x82": false, "\uFFFD": false,
		"ａ": false, "٣": false, "\u0161": false, "\u0430": false, "\x00": false, "a\x00": false, " a": false, "a\n": false,
		strings.Repeat("ä", 12): false, strings.Repeat("a", 23) + "ä": false, "a/b": false, "a\\b": false, "a:b": false, "a@b": false, "a[": false, "a`": false, "a{": false,
	} {
		if got := object.Name(s); got != want {
			t.Errorf("Name(%q): %v", s, got)
		}
	}
}

// P5.1: signs whose lowest bits are those of a letter are no letters.
func TestNameSigns(t *testing.T) {
	for sign := rune(128); sign <= 0x10FFFF; sign++ {
		if object.Name(string(sign)) {
			t.Fatalf("Name of the sign %x", sign)
		}
	}
}

// P5.1: Same tells each field, at each Kind, of what may not be, too.
func TestSame(t *testing.T) {
	all := append(good(), bad()...)
	for i, a := range all {
		if !object.Same(a, copied(a)) {
			t.Errorf("Same of %s and its copy", short(a))
		}
		for _, b := range all[max(0, i-40):] {
			if got := object.Same(a, b); got != alike(a, b) {
				t.Fatalf("Same of %s and %s: %v", short(a), short(b), got)
			}
		}
	}
}

// P5.1: one field changed, and only that.
func TestSameFields(t *testing.T) {
	changes := []func(o *api.Object){
		func(o *api.Object) { o.Kind++ },
		func(o *api.Object) { o.Kind += 256 },
		func(o *api.Object) { o.Kind = -o.Kind },
		func(o *api.Object) { o.Bytes = append(o.Bytes, 0) },
		func(o *api.Object) { o.Bytes = o.Bytes[1:] },
		func(o *api.Object) { o.Bytes[0] ^= 1 },
		func(o *api.Object) { o.Bytes[len(o.Bytes)-1] ^= 128 },
		func(o *api.Object) { o.Bytes = nil },
		func(o *api.Object) { o.Entries = append(o.Entries, api.Entry{}) },
		func(o *api.Object) { o.Entries = o.Entries[:1] },
		func(o *api.Object) { o.Entries = nil },
		func(o *api.Object) { o.Entries[0].Name = "A" },
		func(o *api.Object) { o.Entries[1].Name += "b" },
		func(o *api.Object) { o.Entries[1].Folder = !o.Entries[1].Folder },
		func(o *api.Object) { o.Entries[0].Id[31]++ },
		func(o *api.Object) { o.Entries[0], o.Entries[1] = o.Entries[1], o.Entries[0] },
		func(o *api.Object) { o.Tree[0]++ },
		func(o *api.Object) { o.Tree[31]++ },
		func(o *api.Object) { o.Parents = append(o.Parents, api.Id{}) },
		func(o *api.Object) { o.Parents = o.Parents[:1] },
		func(o *api.Object) { o.Parents = nil },
		func(o *api.Object) { o.Parents[1][31]++ },
		func(o *api.Object) { o.Parents[0], o.Parents[1] = o.Parents[1], o.Parents[0] },
		func(o *api.Object) { o.Number++ },
		func(o *api.Object) { o.Number ^= 1 << 31 },
		func(o *api.Object) { o.Note = "" },
		func(o *api.Object) { o.Note += "\x00" },
		func(o *api.Object) { o.Note = "M" + o.Note[1:] },
	}
	for kind := range 5 {
		a := api.Object{Kind: kind, Bytes: []byte{1, 2, 3}, Entries: folder("a", "b").Entries, Tree: id(9), Parents: commit(2, 0, "").Parents, Number: 5, Note: "note"}
		for i, change := range changes {
			b := copied(a)
			change(&b)
			if !object.Same(a, copied(a)) || object.Same(a, b) != alike(a, b) || object.Same(b, a) != alike(a, b) {
				t.Errorf("Kind %d, change %d: Same of %s", kind, i, short(b))
			}
		}
	}
}

// P5.1, R3: nil and empty lists are one.
func TestSameEmpty(t *testing.T) {
	for kind := range 5 {
		a := api.Object{Kind: kind}
		b := api.Object{Kind: kind, Bytes: []byte{}, Entries: []api.Entry{}, Parents: make([]api.Id, 0, 2)}
		if !object.Same(a, b) || !object.Same(b, a) || !object.Same(b, b) {
			t.Errorf("Same of nil and empty lists, Kind %d", kind)
		}
	}
}

// P5.2: bytes and Id of what may be.
func TestEncode(t *testing.T) {
	for _, o := range good() {
		b, e := object.Encode(o)
		if want := laid(o); e != api.OK || !bytes.Equal(b, want) {
			t.Errorf("Encode of %s: %x, %d, want %x", short(o), b, e, want)
		}
		d, e := object.Id(o)
		if want := sha256.Sum256(laid(o)); e != api.OK || d != want {
			t.Errorf("Id of %s: %x, %d, want %x", short(o), d, e, want)
		}
	}
}

// P5.2: bytes that are written out, so that nothing hangs on how this file lays them.
func TestEncodeWrittenOut(t *testing.T) {
	tree := api.Object{Kind: api.ObjTree, Entries: []api.Entry{{Name: "a.go", Id: id(0x20)}, {Name: "b", Folder: true, Id: id(0x80)}}}
	wantTree := "\x02\x02" +
		"\x04a.go\x00" + " !\"#$%&'()*+,-./0123456789:;<=>?" +
		"\x01b\x01" + "\x80\x81\x82\x83\x84\x85\x86\x87\x88\x89\x8a\x8b\x8c\x8d\x8e\x8f\x90\x91\x92\x93\x94\x95\x96\x97\x98\x99\x9a\x9b\x9c\x9d\x9e\x9f"
	made := api.Object{Kind: api.ObjCommit, Tree: id('0'), Parents: []api.Id{id('@')}, Number: 0x01020304, Note: "hi"}
	wantMade := "\x03" + "0123456789:;<=>?@ABCDEFGHIJKLMNO" + "\x01" + "@ABCDEFGHIJKLMNOPQRSTUVWXYZ[\\]^_" + "\x01\x02\x03\x04" + "\x02hi"
	for _, q := range []struct {
		o api.Object
		b string
	}{{tree, wantTree}, {made, wantMade}, {blob(0), "\x01\x00\x00"}, {api.Object{Kind: api.ObjBlob, Bytes: make([]byte, 4096)}, "\x01\x10\x00" + strings.Repeat("\x00", 4096)}} {
		if b, e := object.Encode(q.o); e != api.OK || string(b) != q.b {
			t.Errorf("Encode of %s: %q, %d, want %q", short(q.o), b, e, q.b)
		}
		if o, e := object.Decode([]byte(q.b)); e != api.OK || !alike(o, q.o) {
			t.Errorf("Decode of %q: %s, %d", q.b, short(o), e)
		}
	}
}

// P5.2: of what may not be there are no bytes and no Id.
func TestEncodeBad(t *testing.T) {
	for _, o := range bad() {
		if b, e := object.Encode(o); e != api.ErrObject || len(b) != 0 {
			t.Errorf("Encode of %s: %x, %d", short(o), b, e)
		}
		if d, e := object.Id(o); e != api.ErrObject || d != (api.Id{}) {
			t.Errorf("Id of %s: %x, %d", short(o), d, e)
		}
	}
}

// P5.3: each first byte, alone and with bytes behind it.
func TestDecodeKinds(t *testing.T) {
	for c := range 256 {
		want := api.ErrObject
		if c >= 1 && c <= 3 {
			want = api.ErrShort
		}
		if o, e := object.Decode([]byte{byte(c)}); e != want || !isZero(o) {
			t.Errorf("Decode of %x: %s, %d", c, short(o), e)
		}
		for _, o := range []api.Object{blob(0), blob(40), folder("a", "b"), commit(2, 3, "n")} {
			b := laid(o)
			b[0] = byte(c)
			wantDecode(t, b)
			if c < 1 || c > 3 {
				if o, e := object.Decode(b); e != api.ErrObject || !isZero(o) {
					t.Errorf("Decode of %x: %s, %d", b, short(o), e)
				}
			}
		}
	}
}

// P5.3, P5.5: each beginning of an object's bytes is ErrShort, and with bytes more they are no object's.
func TestDecodeCut(t *testing.T) {
	for _, o := range good() {
		b := laid(o)
		for n := range len(b) {
			if o, e := object.Decode(b[:n]); e != api.ErrShort || !isZero(o) {
				t.Fatalf("Decode of the first %d bytes of %x: %s, %d", n, b, short(o), e)
			}
		}
		for _, more := range [][]byte{{0}, {1}, {0, 0}, make([]byte, 34), b} {
			longer := slices.Concat(b, more)
			if o, e := object.Decode(longer); e != api.ErrObject || !isZero(o) {
				t.Fatalf("Decode of %x and %x behind it: %s, %d", b, more, short(o), e)
			}
		}
	}
}

// P5.3: what may not be is ErrObject where it is whole, and ErrShort wherever it ends too early, whatever stands ahead of that (R2).
func TestDecodeBad(t *testing.T) {
	for _, o := range []api.Object{
		blob(4097), blob(5000), blob(65535), folder(rising(33)...), folder(rising(34)...), folder(rising(255)...),
		folder(""), folder("."), folder(".."), folder("a/b"), folder("\xff"), folder("ä"), folder(strings.Repeat("n", 25)), folder(strings.Repeat("n", 255)),
		folder("a", "a"), folder("b", "a"), folder("ab", "a"), folder("a", "b", "b"), folder("b", "c", "a"), folder("", "a"),
		commit(3, 1, ""), commit(4, 1, "n"), commit(255, 1, ""), commit(0, 0, strings.Repeat("x", 201)), commit(2, 0, strings.Repeat("x", 255)), commit(3, 1, strings.Repeat("x", 255)),
	} {
		b := laid(o)
		if p, e := object.Decode(b); e != api.ErrObject || !isZero(p) {
			t.Errorf("Decode of %x: %s, %d", b, short(p), e)
		}
		if p, e := object.Decode(append(slices.Clone(b), 0)); e != api.ErrObject || !isZero(p) {
			t.Errorf("Decode of %x and 0 behind it: %s, %d", b, short(p), e)
		}
		for n := 0; n < len(b); n += 1 + n/500 {
			if p, e := object.Decode(b[:n]); e != api.ErrShort || !isZero(p) {
				t.Fatalf("Decode of the first %d bytes of %x: %s, %d", n, b, short(p), e)
			}
		}
	}
}

// P5.3: Folder is 1 or 0, and nothing else; ahead of an end that comes too early it is not looked at.
func TestDecodeFolder(t *testing.T) {
	for at, o := range map[int]api.Object{3: folder("a"), 3 + 35: folder("a", "b")} {
		for c := range 256 {
			b := laid(o)
			b[at+1] = byte(c)
			want := api.ErrObject
			if c <= 1 {
				want = api.OK
			}
			p, e := object.Decode(b)
			if e != want || e == api.OK && p.Entries[at/35].Folder != (c == 1) || e != api.OK && !isZero(p) {
				t.Errorf("Decode with Folder %d: %s, %d", c, short(p), e)
			}
			if p, e := object.Decode(b[:len(b)-1]); e != api.ErrShort || !isZero(p) {
				t.Errorf("Decode with Folder %d, cut: %s, %d", c, short(p), e)
			}
		}
	}
}

// P5.3: each byte of an object's bytes, its counts among them, made each other byte.
func TestDecodeChanged(t *testing.T) {
	told := map[api.Errno]int{}
	for _, o := range []api.Object{blob(0), blob(1), blob(300), folder(), folder("a"), folder("a", "ab", "b"), folder(strings.Repeat("n", 24)), commit(0, 0, ""), commit(1, 2, "n"), commit(2, math.MaxUint32, "\xff\x00")} {
		b := laid(o)
		for i := range b {
			was := b[i]
			for c := range 256 {
				b[i] = byte(c)
				told[wantDecode(t, b)]++
			}
			b[i] = was
		}
	}
	if told[api.OK] == 0 || told[api.ErrShort] == 0 || told[api.ErrObject] == 0 {
		t.Errorf("told: %v", told)
	}
}

// P5.3: objects' bytes that were changed, cut and put together by chance.
func TestDecodeChance(t *testing.T) {
	r := rand.New(rand.NewSource(5))
	told := map[api.Errno]int{}
	all := good()
	for range 60000 {
		b := laid(all[r.Intn(len(all))])
		for range r.Intn(3) {
			b[r.Intn(min(len(b), 80))] = byte(r.Intn(40))
		}
		switch r.Intn(4) {
		case 0:
			b = b[:r.Intn(len(b)+1)]
		case 1:
			b = append(b, laid(all[r.Intn(len(all))])...)
		}
		told[wantDecode(t, b)]++
	}
	for range 60000 {
		b := make([]byte, r.Intn(120))
		for i := range b {
			b[i] = byte(r.Intn(4) * r.Intn(1+r.Intn(64)))
		}
		told[wantDecode(t, b)]++
	}
	if told[api.OK] == 0 || told[api.ErrShort] == 0 || told[api.ErrObject] == 0 {
		t.Errorf("told: %v", told)
	}
}

// P5.4: the Ids that an object names.
func TestLinks(t *testing.T) {
	for _, o := range good() {
		var want []api.Id
		switch o.Kind {
		case api.ObjTree:
			for _, e := range o.Entries {
				want = append(want, e.Id)
			}
		case api.ObjCommit:
			want = append([]api.Id{o.Tree}, o.Parents...)
		}
		if got := object.Links(o); !slices.Equal(got, want) {
			t.Errorf("Links of %s: %x", short(o), got)
		}
	}
	for _, o := range bad() {
		if got := object.Links(o); len(got) != 0 {
			t.Errorf("Links of %s: %x", short(o), got)
		}
	}
	if got := object.Links(commit(2, 1, "")); !slices.Equal(got, []api.Id{id(1), id(100), id(101)}) {
		t.Errorf("Links of a commit: %x", got)
	}
	if got := object.Links(folder("a", "b", "c")); !slices.Equal(got, []api.Id{id(40), id(41), id(42)}) {
		t.Errorf("Links of a folder: %x", got)
	}
}

// P5.5: Decode of Encode is the object, Encode of Decode the bytes; unlike objects have unlike bytes, and unlike Ids.
func TestRound(t *testing.T) {
	all := good()
	r := rand.New(rand.NewSource(55))
	for range 3000 {
		all = append(all, chance(r))
	}
	byBytes, byId := map[string]api.Object{}, map[api.Id]api.Object{}
	for _, o := range all {
		b, e := object.Encode(o)
		p, f := object.Decode(b)
		if e != api.OK || f != api.OK || !alike(p, o) || !object.Same(p, o) {
			t.Fatalf("Decode of Encode of %s: %s, %d, %d", short(o), short(p), e, f)
		}
		if c, e := object.Encode(p); e != api.OK || !bytes.Equal(c, b) {
			t.Fatalf("Encode of Decode of %x: %x, %d", b, c, e)
		}
		d, _ := object.Id(o)
		if q, there := byBytes[string(b)]; there && !alike(q, o) {
			t.Fatalf("%s and %s have the bytes %x", short(q), short(o), b)
		}
		if q, there := byId[d]; there && !alike(q, o) {
			t.Fatalf("%s and %s have the Id %x", short(q), short(o), d)
		}
		byBytes[string(b)], byId[d] = o, o
	}
}

// chance is an object that may be, with few things in it, so that like ones come about.
func chance(r *rand.Rand) api.Object {
	switch r.Intn(3) {
	case 0:
		return blob(r.Intn(300))
	case 1:
		o := api.Object{Kind: api.ObjTree}
		for _, s := range []string{"-", "0", "a", "a-", "a.go", "aa", "b"} {
			if r.Intn(2) == 0 {
				o.Entries = append(o.Entries, api.Entry{Name: s, Folder: r.Intn(2) == 0, Id: id(byte(r.Intn(3)))})
			}
		}
		return o
	}
	o := commit(r.Intn(3), uint32(r.Intn(3)), strings.Repeat("\x00", r.Intn(3)))
	o.Tree = id(byte(r.Intn(3)))
	return o
}

// R3: what is handed in is not changed, the room behind its lists' ends neither, and what is answered shares nothing with it.
func TestNotKept(t *testing.T) {
	for _, o := range append(good(), bad()...) {
		roomy := o
		roomy.Bytes = append(slices.Grow(slices.Clone(o.Bytes), 9), 1, 2, 3)[:len(o.Bytes)]
		roomy.Entries = append(slices.Grow(slices.Clone(o.Entries), 9), api.Entry{Name: "x"}, api.Entry{Name: "y"})[:len(o.Entries)]
		roomy.Parents = append(slices.Grow(slices.Clone(o.Parents), 9), id(7), id(8))[:len(o.Parents)]
		object.Check(roomy)
		object.Same(roomy, roomy)
		object.Id(roomy)
		b, _ := object.Encode(roomy)
		l := object.Links(roomy)
		for i := range b {
			b[i]++
		}
		for i := range l {
			l[i][0]++
		}
		_, _ = append(b, 9), append(l, id(9))
		if !alike(roomy, o) {
			t.Fatalf("%s was changed: %s", short(o), short(roomy))
		}
		room := roomy.Bytes[:len(o.Bytes)+3][len(o.Bytes):]
		entries := roomy.Entries[:len(o.Entries)+2][len(o.Entries):]
		parents := roomy.Parents[:len(o.Parents)+2][len(o.Parents):]
		if !bytes.Equal(room, []byte{1, 2, 3}) || entries[0].Name != "x" || entries[1].Name != "y" || parents[0] != id(7) || parents[1] != id(8) {
			t.Fatalf("the room behind the lists of %s was changed", short(o))
		}
	}
}

// R3: what is answered does not change with what was handed in, and is new at each call.
func TestAnswersNew(t *testing.T) {
	for _, o := range good() {
		want := copied(o)
		b, _ := object.Encode(o)
		again, _ := object.Encode(o)
		l, links := object.Links(o), object.Links(o)
		for i := range again {
			again[i]++
		}
		for i := range links {
			links[i][0]++
		}
		scratch := copied(o)
		c, _ := object.Encode(scratch)
		m := object.Links(scratch)
		for i := range scratch.Bytes {
			scratch.Bytes[i]++
		}
		for i := range scratch.Entries {
			scratch.Entries[i] = api.Entry{}
		}
		for i := range scratch.Parents {
			scratch.Parents[i] = api.Id{}
		}
		if !bytes.Equal(b, laid(want)) || !bytes.Equal(c, laid(want)) || !slices.Equal(l, m) || !slices.Equal(l, object.Links(want)) {
			t.Fatalf("answers of %s share memory", short(o))
		}
	}
}

// R3: Decode keeps nothing of its bytes, and changes nothing of them, nor of the room behind them.
func TestDecodeNotKept(t *testing.T) {
	for _, o := range good() {
		want := laid(o)
		for _, cut := range []int{0, 1} {
			roomy := append(slices.Grow(slices.Clone(want), 40), 1, 2, 3)
			b := roomy[:len(want)-cut]
			p, e := object.Decode(b)
			q, _ := object.Decode(b)
			if !bytes.Equal(roomy, append(slices.Clone(want), 1, 2, 3)) {
				t.Fatalf("Decode has changed %x", want)
			}
			for i := range roomy {
				roomy[i]++
			}
			for i := range q.Bytes {
				q.Bytes[i]++
			}
			clear(q.Entries)
			clear(q.Parents)
			if cut == 0 && (e != api.OK || !alike(p, o)) {
				t.Fatalf("Decode of %x: %s, %d", want, short(p), e)
			}
		}
	}
}
