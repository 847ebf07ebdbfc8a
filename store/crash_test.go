package store_test

import (
	"fmt"
	"math/rand"
	"reflect"
	"slices"
	"testing"

	"shipwright/api"
	"shipwright/disk"
	"shipwright/store"
	"shipwright/wal"
)

// act is a Commit, or a Sweep.
type act struct {
	what  string
	sweep bool
	batch api.Batch
	roots []api.Id
}

func (a act) store(s *store.Store) (int, api.Errno) {
	if a.sweep {
		return s.Sweep(a.roots)
	}
	return 0, s.Commit(a.batch)
}

func (a act) model(m *model) (int, api.Errno) {
	if a.sweep {
		return m.sweep(a.roots)
	}
	return 0, m.commit(a.batch)
}

// begun is a store with something in it, of areas of 6 sectors with two left, and its model.
func begun(t *testing.T) *pair {
	t.Helper()
	p := format(t, 6)
	p.commit("first", api.Batch{Objects: []api.Object{blob("a"), blob("b")}, Sets: []api.Set{put("k", "v")}}, api.OK)
	p.sweep("all", ids(blob("a"), blob("b")), 0, api.OK)
	p.commit("second", objects(folder(blob("a"))), api.OK)
	p.commit("third", api.Batch{Objects: []api.Object{folder(blob("a"), blob("b"))}, Sets: []api.Set{swap("k", "v", "w")}}, api.OK)
	if p.s.Wal().Left() != 2 {
		t.Fatalf("%d sectors left", p.s.Wal().Left())
	}
	return p
}

// acts are done to what is begun: appended, in one sector and in two, and by checkpoints.
func acts() []act {
	a, b := blob("a"), blob("b")
	f := folder(a)
	return []act{
		{what: "a value", batch: sets(swap("k", "w", "x"))},
		{what: "an object and a value", batch: api.Batch{Objects: []api.Object{f, folder(b)}, Sets: []api.Set{drop("k", "w")}}},
		{what: "more than is left", batch: api.Batch{Objects: []api.Object{blob(long(90)), a}, Sets: []api.Set{put("l", "y")}}},
		{what: "a Sweep", sweep: true, roots: ids(f)},
		{what: "a Sweep of all", sweep: true},
		{what: "a Sweep of nothing", sweep: true, roots: ids(folder(a, b), f)},
	}
}

// again opens what is on a copy of the pair's disks.
func (p *pair) again() *pair {
	p.t.Helper()
	s, err := store.Open(p.s.Wal().Disk().Copy())
	wantErr(p.t, "Open of a copy", err, api.OK)
	return &pair{p.t, s, p.m.copy(p.t)}
}

// crashed tells a copy of the disk for each choice of what survives.
func crashed(t *testing.T, d *disk.Disk) func(yield func(*disk.Disk) bool) {
	return func(yield func(*disk.Disk) bool) {
		n := len(d.Pending())
		for bits := range 1 << n {
			keep := make([]bool, n)
			for i := range keep {
				keep[i] = bits>>i&1 == 1
			}
			c := d.Copy()
			wantErr(t, "Crash", c.Crash(keep), api.OK)
			if !yield(c) {
				return
			}
		}
	}
}

// opened is what a store tells that Open finds.
func opened(t *testing.T, what string, d *disk.Disk) told {
	t.Helper()
	s, err := store.Open(d)
	wantErr(t, what+", Open", err, api.OK)
	if s.Broken() {
		t.Fatalf("%s, Open: Broken", what)
	}
	return tell(t, s)
}

// wantOneOf asks that what is told is one of two.
func wantOneOf(t *testing.T, what string, got, old, new told) {
	t.Helper()
	if !reflect.DeepEqual(got, old) && !reflect.DeepEqual(got, new) {
		t.Fatalf("%s: found\n%+v\nwant\n%+v\nor\n%+v", what, got, old, new)
	}
}

// wantFound asks Open for one of two; and for that same one, wherever the power goes in an Open ahead of it, whatever survives.
func wantFound(t *testing.T, what string, d *disk.Disk, old, new told) {
	t.Helper()
	found := opened(t, what, d.Copy())
	wantOneOf(t, what, found, old, new)
	for armed := 0; ; armed++ {
		c := d.Copy()
		c.Arm(armed)
		s, err := store.Open(c)
		if err == api.OK {
			return
		}
		if s != nil {
			t.Fatalf("%s, Open cut off: a store", what)
		}
		wantErr(t, what+", Open cut off", err, api.ErrDead)
		for left := range crashed(t, c) {
			wantTold(t, what+", Open cut off", opened(t, what, left), found)
		}
	}
}

// P6.6, P6.2, P6.3: the power goes at each write and sync of a Commit or a Sweep, and whatever survives, Open finds what was, or what was to be; what was told OK is there.
func TestPowerAtEachWrite(t *testing.T) {
	start := begun(t)
	for _, a := range acts() {
		old := start.m.told()
		done := start.again()
		gone, err := a.model(done.m)
		wantErr(t, a.what+", the model", err, api.OK)
		whole := done.m.told()
		for armed, ended := 0, false; !ended; armed++ {
			p := start.again()
			d := p.s.Wal().Disk()
			d.Arm(armed)
			n, err := a.store(p.s)
			ended = err == api.OK
			what := fmt.Sprintf("%s, armed with %d", a.what, armed)
			if ended {
				if n != gone {
					t.Fatalf("%s: %d, want %d", what, n, gone)
				}
				for left := range crashed(t, d) {
					wantFound(t, what, left, whole, whole)
				}
				continue
			}
			wantErr(t, what, err, api.ErrDead)
			wantBroken(t, what, p, n, old)
			for left := range crashed(t, d) {
				wantFound(t, what, left, old, whole)
			}
		}
	}
}

// wantBroken asks that a store whose log is broken tells what it told, and refuses all that is asked of it.
func wantBroken(t *testing.T, what string, p *pair, n int, old told) {
	t.Helper()
	if n != 0 || !p.s.Broken() || !p.s.Wal().Broken() {
		t.Fatalf("%s: %d, Broken %v", what, n, p.s.Broken())
	}
	wantTold(t, what, tell(t, p.s), old)
	was := p.s.Wal().Disk().Copy()
	for _, b := range []api.Batch{{}, objects(blob("z")), sets(put("z", "")), objects(api.Object{})} {
		wantErr(t, what+", Commit behind it", p.s.Commit(b), api.ErrIo)
	}
	for _, roots := range [][]api.Id{nil, ids(blob("a")), ids(blob("z"))} {
		n, err := p.s.Sweep(roots)
		wantErr(t, what+", Sweep behind it", err, api.ErrIo)
		if n != 0 {
			t.Fatalf("%s, Sweep behind it: %d", what, n)
		}
	}
	wantTold(t, what+", behind it", tell(t, p.s), old)
	wantDisk(t, what+", behind it", p.s.Wal().Disk(), was)
}

// P6.2, P6.3, P6.6: each operation of a Commit or a Sweep fails in its turn.
func TestFailureAtEachOperation(t *testing.T) {
	start := begun(t)
	for _, a := range acts() {
		old := start.m.told()
		done := start.again()
		a.model(done.m)
		whole := done.m.told()
		for n, ended := 0, false; !ended; n++ {
			p := start.again()
			d := p.s.Wal().Disk()
			d.Fail(n)
			gone, err := a.store(p.s)
			d.Fail(-1)
			ended = err == api.OK
			what := fmt.Sprintf("%s, failing at %d", a.what, n)
			if ended {
				wantTold(t, what, tell(t, p.s), whole)
				continue
			}
			wantErr(t, what, err, api.ErrIo)
			wantBroken(t, what, p, gone, old)
			for left := range crashed(t, d) {
				wantFound(t, what, left, old, whole)
			}
			wantOneOf(t, what, opened(t, what, d), old, whole)
		}
	}
}

// P6.1: each operation of Format fails, and the power goes at each: the error is told; on a new disk there is a store with nothing then, or none.
func TestFormatFails(t *testing.T) {
	for n, ended := 0, false; !ended; n++ {
		d, _ := disk.New(10)
		d.Fail(n)
		s, err := store.Format(d, 4)
		ended = err == api.OK
		if !ended {
			wantErr(t, fmt.Sprintf("Format, failing at %d", n), err, api.ErrIo)
		}
		if (s != nil) != ended {
			t.Fatalf("Format, failing at %d: %v", n, s)
		}
	}
	for armed, ended := 0, false; !ended; armed++ {
		d, _ := disk.New(10)
		d.Arm(armed)
		s, err := store.Format(d, 4)
		ended = err == api.OK
		what := fmt.Sprintf("Format, armed with %d", armed)
		if !ended {
			wantErr(t, what, err, api.ErrDead)
		}
		if (s != nil) != ended {
			t.Fatalf("%s: %v", what, s)
		}
		for left := range crashed(t, d) {
			u, err := store.Open(left)
			switch {
			case err == api.OK:
				wantTold(t, what, tell(t, u), told{left: 3})
			case ended || err != api.ErrWal || u != nil:
				t.Fatalf("%s: Open: error %d", what, err)
			}
		}
	}
}

// P6.1: each operation of an Open fails, of one that has sectors to lay noughts over, too.
func TestOpenFails(t *testing.T) {
	start := begun(t)
	old := start.m.told()
	p := start.again()
	d := p.s.Wal().Disk()
	d.Arm(1)
	wantErr(t, "Commit", p.s.Commit(objects(blob(long(40)))), api.ErrDead)
	wantErr(t, "Crash", d.Crash([]bool{true}), api.OK)
	fails := 0
	for n, ended := 0, false; !ended; n++ {
		c := d.Copy()
		c.Fail(n)
		s, err := store.Open(c)
		ended = err == api.OK
		if ended {
			wantTold(t, "Open", tell(t, s), old)
			continue
		}
		fails++
		wantErr(t, fmt.Sprintf("Open, failing at %d", n), err, api.ErrIo)
		if s != nil {
			t.Fatalf("Open, failing at %d: a store", n)
		}
		wantTold(t, "Open again", opened(t, "Open again", c), old)
	}
	// Two heads, six sectors of the area, one with something behind the chain's end, a sync.
	if fails != 10 {
		t.Errorf("Open has %d operations", fails)
	}
}

// pool is objects of which each has its links among those ahead.
func pool(random *rand.Rand) []api.Object {
	var list []api.Object
	for i := range 6 {
		list = append(list, blob(long(random.Intn(30))+fmt.Sprint(i)))
	}
	for range 6 {
		var entries []api.Object
		for range random.Intn(3) {
			entries = append(entries, list[random.Intn(len(list))])
		}
		list = append(list, folder(entries...))
	}
	for i := range 4 {
		var parents []api.Object
		if i > 0 {
			parents = []api.Object{list[len(list)-1-random.Intn(i)]}
		}
		list = append(list, commit(list[6+random.Intn(6)], fmt.Sprint(i), parents...))
	}
	return list
}

// anyAct is a Commit or a Sweep that may be done, most times.
func anyAct(random *rand.Rand, m *model, list []api.Object) act {
	if random.Intn(6) == 0 {
		a := act{what: "Sweep", sweep: true}
		for _, h := range m.held {
			if random.Intn(4) == 0 {
				a.roots = append(a.roots, h.Id)
			}
		}
		if random.Intn(8) == 0 {
			a.roots = append(a.roots, id(list[random.Intn(len(list))]))
		}
		return a
	}
	a := act{what: "Commit"}
	for _, o := range list {
		if random.Intn(5) == 0 {
			a.batch.Objects = append(a.batch.Objects, o)
		}
	}
	if random.Intn(3) > 0 {
		// All that the last one needs.
		a.batch.Objects = list[:random.Intn(len(list)+1)]
	}
	if random.Intn(20) == 0 {
		a.batch.Objects = append(slices.Clone(a.batch.Objects), api.Object{})
	}
	for _, name := range []string{"c", "a", "b"} {
		if random.Intn(3) > 0 {
			continue
		}
		x := api.Set{Name: name, Is: random.Intn(3) > 0}
		if x.Is {
			x.New = []byte(long(random.Intn(20)))
		}
		old, ok := m.values[name]
		x.Was = ok
		x.Old = []byte(old)
		if random.Intn(12) == 0 {
			x.Was = !x.Was
		}
		a.batch.Sets = append(a.batch.Sets, x)
	}
	return a
}

// longRun does acts at random, with the power going in some of them and in Opens behind them, and holds what is told and found against the model.
func longRun(t *testing.T, random *rand.Rand, area, steps int) {
	t.Helper()
	p := format(t, area)
	list := pool(random)
	for range steps {
		a := anyAct(random, p.m, list)
		next := p.m.copy(t)
		gone, want := a.model(next)
		d := p.s.Wal().Disk()
		if random.Intn(4) == 0 {
			d.Arm(random.Intn(8))
		}
		n, err := a.store(p.s)
		if err == want {
			d.Arm(-1)
			p.m = next
			if n != gone {
				t.Fatalf("%s: %d, want %d", a.what, n, gone)
			}
			wantTold(t, a.what, tell(t, p.s), p.m.told())
			continue
		}
		wantErr(t, a.what, err, api.ErrDead)
		wantTold(t, a.what+" broken", tell(t, p.s), p.m.told())
		keep := make([]bool, len(d.Pending()))
		for i := range keep {
			keep[i] = random.Intn(2) == 0
		}
		wantErr(t, "Crash", d.Crash(keep), api.OK)
		s, err := store.Open(d)
		wantErr(t, "Open", err, api.OK)
		got := tell(t, s)
		wantOneOf(t, a.what, got, p.m.told(), next.told())
		if reflect.DeepEqual(got, next.told()) {
			p.m = next
		}
		p.s = s
	}
	wantTold(t, "at the end", opened(t, "at the end", p.s.Wal().Disk()), p.m.told())
}

// P6.6: long rows of acts and crashes.
func TestLongRuns(t *testing.T) {
	for seed := range int64(40) {
		random := rand.New(rand.NewSource(seed))
		longRun(t, random, 4+random.Intn(30), 100)
	}
}

// P6.6: what was put is got, till it is swept, through many turns of the log.
func TestPutIsGot(t *testing.T) {
	p := format(t, 12)
	for i := range 60 {
		o := blob(fmt.Sprint("number ", i))
		p.commit("put", objects(o), api.OK)
		if i%8 == 7 {
			p.sweep("swept", ids(o), 7, api.OK)
			p.sweep("swept", nil, 1, api.OK)
		}
		p.open("put")
	}
	if p.s.Wal().Turn() < 14 {
		t.Errorf("turn %d", p.s.Wal().Turn())
	}
	// A log that is used beside the store, and has come to have none, is found out by Open.
	wantErr(t, "Append", p.s.Wal().Append([]byte{9}), api.OK)
	if _, err := store.Open(p.s.Wal().Disk()); err != api.ErrStore {
		t.Errorf("Open: error %d", err)
	}
	if _, err := wal.Open(p.s.Wal().Disk()); err != api.OK {
		t.Errorf("the log's Open: error %d", err)
	}
}
