package store_test

import (
	"bytes"
	"crypto/sha256"
	"encoding/binary"
	"fmt"
	"reflect"
	"slices"
	"sort"
	"strings"
	"testing"

	"shipwright/api"
	"shipwright/disk"
	"shipwright/object"
	"shipwright/store"
	"shipwright/wal"
)

// What a batch is that may be, what its bytes are, and what a store has and logs, is said here anew from the chapter's words, so that the tests do not lean on what they test.

func blob(s string) api.Object {
	return api.Object{Kind: api.ObjBlob, Bytes: []byte(s)}
}

// folder has the objects as its entries.
func folder(list ...api.Object) api.Object {
	o := api.Object{Kind: api.ObjTree}
	for i, e := range list {
		o.Entries = append(o.Entries, api.Entry{Name: fmt.Sprintf("e%02d", i), Folder: e.Kind == api.ObjTree, Id: id(e)})
	}
	return o
}

func commit(tree api.Object, note string, parents ...api.Object) api.Object {
	o := api.Object{Kind: api.ObjCommit, Tree: id(tree), Number: uint32(len(parents)), Note: note}
	for _, p := range parents {
		o.Parents = append(o.Parents, id(p))
	}
	return o
}

// own are an object's bytes (5).
func own(o api.Object) []byte {
	b, err := object.Encode(o)
	if err != api.OK {
		panic(fmt.Sprintf("%+v may not be", o))
	}
	return b
}

func id(o api.Object) api.Id {
	return sha256.Sum256(own(o))
}

func ids(list ...api.Object) []api.Id {
	var answer []api.Id
	for _, o := range list {
		answer = append(answer, id(o))
	}
	return answer
}

// put, swap, drop and still are the Sets of a name: from nothing to a value, from one to another, from one to nothing, from nothing to nothing.
func put(name, value string) api.Set {
	return api.Set{Name: name, Is: true, New: []byte(value)}
}

func swap(name, old, value string) api.Set {
	return api.Set{Name: name, Was: true, Old: []byte(old), Is: true, New: []byte(value)}
}

func drop(name, old string) api.Set {
	return api.Set{Name: name, Was: true, Old: []byte(old)}
}

func still(name string) api.Set {
	return api.Set{Name: name}
}

func objects(list ...api.Object) api.Batch {
	return api.Batch{Objects: list}
}

func sets(list ...api.Set) api.Batch {
	return api.Batch{Sets: list}
}

// may says whether a batch may be.
func may(b api.Batch) bool {
	if len(b.Objects) > 4096 || len(b.Sets) > 64 {
		return false
	}
	for _, o := range b.Objects {
		if _, err := object.Encode(o); err != api.OK {
			return false
		}
	}
	times := map[string]int{}
	for _, x := range b.Sets {
		times[x.Name]++
		if len(x.Name) == 0 || len(x.Name) > 24 || times[x.Name] > 1 {
			return false
		}
		if len(x.Old) > 1024 || len(x.New) > 1024 || !x.Was && len(x.Old) > 0 || !x.Is && len(x.New) > 0 {
			return false
		}
	}
	return true
}

// laid are a batch's bytes, of one that may not be, too, as far as its counts can be laid.
func laid(b api.Batch) []byte {
	list := binary.BigEndian.AppendUint16(nil, uint16(len(b.Objects)))
	for _, o := range b.Objects {
		list = binary.BigEndian.AppendUint16(list, uint16(len(own(o))))
		list = append(list, own(o)...)
	}
	list = append(list, byte(len(b.Sets)))
	value := func(there bool, b []byte) {
		if there {
			list = append(list, 1)
		} else {
			list = append(list, 0)
		}
		list = binary.BigEndian.AppendUint16(list, uint16(len(b)))
		list = append(list, b...)
	}
	for _, x := range b.Sets {
		list = append(list, byte(len(x.Name)))
		list = append(list, x.Name...)
		value(x.Was, x.Old)
		value(x.Is, x.New)
	}
	return list
}

// told is all that a store tells, and its log's.
type told struct {
	heap     string
	values   string
	turn     uint32
	left     int
	snapshot string
	later    []string
}

func heapText(list []api.Held) string {
	var text strings.Builder
	for _, h := range list {
		fmt.Fprintf(&text, "%x: %x\n", h.Id, own(h.Object))
	}
	return text.String()
}

func logTold(w *wal.Wal) told {
	was := told{turn: w.Turn(), left: w.Left(), snapshot: string(w.Snapshot())}
	for _, b := range w.All() {
		was.later = append(was.later, string(b))
	}
	return was
}

// tell asks the store for all, and that its calls agree, and that each link leads to an object ahead.
func tell(t *testing.T, s *store.Store) told {
	t.Helper()
	was := logTold(s.Wal())
	heap := s.Heap().List
	was.heap = heapText(heap)
	there := map[api.Id]bool{}
	for _, h := range heap {
		if there[h.Id] {
			t.Errorf("an object stands twice")
		}
		if id(h.Object) != h.Id {
			t.Errorf("an object has not its own Id")
		}
		for _, link := range object.Links(h.Object) {
			if !there[link] {
				t.Errorf("a link leads to no object ahead")
			}
		}
		there[h.Id] = true
		if o, err := s.Get(h.Id); err != api.OK || !object.Same(o, h.Object) {
			t.Errorf("Get: %v, error %d; Heap has %v", o, err, h.Object)
		}
	}
	for _, name := range s.Names() {
		value, ok := s.Value(name)
		if !ok {
			t.Errorf("the name %q has no value", name)
		}
		was.values += fmt.Sprintf("%q: %x\n", name, value)
	}
	return was
}

// model is what a store is to have; its log stands on a disk of its own, and is written as the chapter says.
type model struct {
	held   []api.Held
	values map[string]string
	log    *wal.Wal
}

func newModel(t *testing.T, sectors, area int) *model {
	t.Helper()
	d, _ := disk.New(sectors)
	w, err := wal.Format(d, area)
	wantErr(t, "the model's Format", err, api.OK)
	return &model{values: map[string]string{}, log: w}
}

// copy goes on by itself, on a copy of the disk.
func (m *model) copy(t *testing.T) *model {
	t.Helper()
	w, err := wal.Open(m.log.Disk().Copy())
	wantErr(t, "the model's Open", err, api.OK)
	n := &model{held: slices.Clone(m.held), values: map[string]string{}, log: w}
	for name, value := range m.values {
		n.values[name] = value
	}
	return n
}

func (m *model) has(list []api.Held, id api.Id) bool {
	return slices.ContainsFunc(list, func(h api.Held) bool { return h.Id == id })
}

func (m *model) names() []string {
	var list []string
	for name := range m.values {
		list = append(list, name)
	}
	sort.Strings(list)
	return list
}

func (m *model) told() told {
	was := logTold(m.log)
	was.heap = heapText(m.held)
	for _, name := range m.names() {
		was.values += fmt.Sprintf("%q: %x\n", name, m.values[name])
	}
	return was
}

// snapshot is the batch that makes a store from nothing.
func (m *model) snapshot() api.Batch {
	var b api.Batch
	for _, h := range m.held {
		b.Objects = append(b.Objects, h.Object)
	}
	for _, name := range m.names() {
		b.Sets = append(b.Sets, put(name, m.values[name]))
	}
	return b
}

// checkpoint writes the snapshot of what m has become, if it may be.
func (m *model) checkpoint() api.Errno {
	b := m.snapshot()
	if len(b.Objects) > 4096 || len(laid(b)) > 40000 {
		return api.ErrFull
	}
	return m.log.Checkpoint(laid(b))
}

// commit does what P6.2 says, and answers what it says; of errors m is as it was.
func (m *model) commit(b api.Batch) api.Errno {
	if m.log.Broken() {
		return api.ErrIo
	}
	if !may(b) {
		return api.ErrArg
	}
	next := &model{held: slices.Clone(m.held), values: map[string]string{}, log: m.log}
	tx := api.Batch{Sets: b.Sets}
	for _, o := range b.Objects {
		if m.has(next.held, id(o)) {
			continue
		}
		for _, link := range object.Links(o) {
			if !m.has(next.held, link) {
				return api.ErrNone
			}
		}
		next.held = append(next.held, api.Held{Id: id(o), Object: o})
		tx.Objects = append(tx.Objects, o)
	}
	for name, value := range m.values {
		next.values[name] = value
	}
	for _, x := range b.Sets {
		if value, ok := m.values[x.Name]; ok != x.Was || value != string(x.Old) {
			return api.ErrStale
		}
		delete(next.values, x.Name)
		if x.Is {
			next.values[x.Name] = string(x.New)
		}
	}
	if len(next.values) > 64 {
		return api.ErrFull
	}
	if len(tx.Objects) == 0 && len(b.Sets) == 0 {
		return api.OK
	}
	fills := (len(laid(tx)) + 4 + 47) / 48
	var err api.Errno
	if len(laid(tx)) <= 40000 && fills <= m.log.Left() {
		err = m.log.Append(laid(tx))
	} else {
		err = next.checkpoint()
	}
	if err == api.OK {
		*m = *next
	}
	return err
}

// sweep does what P6.3 says, and answers what it says; of errors m is as it was.
func (m *model) sweep(roots []api.Id) (int, api.Errno) {
	if m.log.Broken() {
		return 0, api.ErrIo
	}
	stays := map[api.Id]bool{}
	for _, root := range roots {
		if !m.has(m.held, root) {
			return 0, api.ErrNone
		}
		stays[root] = true
	}
	// Links lead to what stands ahead: from the end on each object's links are followed once it is known whether it stays.
	for i := len(m.held) - 1; i >= 0; i-- {
		if stays[m.held[i].Id] {
			for _, link := range object.Links(m.held[i].Object) {
				stays[link] = true
			}
		}
	}
	next := &model{values: m.values, log: m.log}
	for _, h := range m.held {
		if stays[h.Id] {
			next.held = append(next.held, h)
		}
	}
	if err := next.checkpoint(); err != api.OK {
		return 0, err
	}
	gone := len(m.held) - len(next.held)
	*m = *next
	return gone, api.OK
}

func wantErr(t *testing.T, what string, got, want api.Errno) {
	t.Helper()
	if got != want {
		t.Fatalf("%s: error %d, want %d", what, got, want)
	}
}

func wantTold(t *testing.T, what string, got, want told) {
	t.Helper()
	if !reflect.DeepEqual(got, want) {
		t.Fatalf("%s: told\n%+v\nwant\n%+v", what, got, want)
	}
}

// wantDisk asks that both disks hold the same, safe and pending, and that as many operations were done.
func wantDisk(t *testing.T, what string, got, want *disk.Disk) {
	t.Helper()
	if got.Ops() != want.Ops() || !slices.Equal(got.Pending(), want.Pending()) || got.Dead() != want.Dead() {
		t.Fatalf("%s: Ops %d, Pending %v, Dead %v; want %d, %v, %v", what, got.Ops(), got.Pending(), got.Dead(), want.Ops(), want.Pending(), want.Dead())
	}
	a, b := got.Copy(), want.Copy()
	wantErr(t, what, a.Crash(slices.Repeat([]bool{true}, 5000)), api.OK)
	wantErr(t, what, b.Crash(slices.Repeat([]bool{true}, 5000)), api.OK)
	for i := range a.Len() {
		x, _ := a.Read(i)
		y, _ := b.Read(i)
		if x != y {
			t.Fatalf("%s: sector %d holds %x, want %x", what, i, x, y)
		}
	}
}

// pair is a store and the model that it is held against.
type pair struct {
	t *testing.T
	s *store.Store
	m *model
}

func format(t *testing.T, area int) *pair {
	t.Helper()
	d, err := disk.New(2 + 2*area)
	wantErr(t, "New", err, api.OK)
	s, err := store.Format(d, area)
	wantErr(t, "Format", err, api.OK)
	p := &pair{t, s, newModel(t, 2+2*area, area)}
	p.same("Format")
	return p
}

// same asks that the store tells what the model does, and has written just that.
func (p *pair) same(what string) {
	p.t.Helper()
	wantTold(p.t, what, tell(p.t, p.s), p.m.told())
	wantDisk(p.t, what, p.s.Wal().Disk(), p.m.log.Disk())
	if p.s.Broken() != p.m.log.Broken() {
		p.t.Fatalf("%s: Broken %v", what, p.s.Broken())
	}
}

// commit asks both for a batch, and that the answer is the one that is wanted.
func (p *pair) commit(what string, b api.Batch, want api.Errno) {
	p.t.Helper()
	wantErr(p.t, what+", the model", p.m.commit(b), want)
	wantErr(p.t, what, p.s.Commit(b), want)
	p.same(what)
}

// sweep asks both for a Sweep, and that the answer is the one that is wanted.
func (p *pair) sweep(what string, roots []api.Id, gone int, want api.Errno) {
	p.t.Helper()
	if n, err := p.m.sweep(roots); n != gone || err != want {
		p.t.Fatalf("%s, the model: %d, error %d; want %d, %d", what, n, err, gone, want)
	}
	if n, err := p.s.Sweep(roots); n != gone || err != want {
		p.t.Fatalf("%s: %d, error %d; want %d, %d", what, n, err, gone, want)
	}
	p.same(what)
}

// open asks that Open finds what the model has, and goes on with that.
func (p *pair) open(what string) {
	p.t.Helper()
	s, err := store.Open(p.s.Wal().Disk())
	wantErr(p.t, what+", Open", err, api.OK)
	w, err := wal.Open(p.m.log.Disk())
	wantErr(p.t, what+", the model's Open", err, api.OK)
	p.s, p.m.log = s, w
	p.same(what + ", Open")
}

// wantBytes asks for the same bytes.
func wantBytes(t *testing.T, what string, got, want []byte) {
	t.Helper()
	if !bytes.Equal(got, want) {
		t.Fatalf("%s: % x, want % x", what, got, want)
	}
}
