package disk_test

import (
	"math"
	"math/rand"
	"slices"
	"testing"

	"shipwright/api"
	"shipwright/disk"
)

// The blocks that tests write; each differs from the others at the first byte and at the last.
func block(n byte) api.Block {
	return api.Block{0: n, 63: n ^ 0xff}
}

var x, y, z = block(1), block(2), block(3)

func newDisk(t *testing.T, sectors int) *disk.Disk {
	t.Helper()
	d, err := disk.New(sectors)
	if err != api.OK || d == nil {
		t.Fatalf("New(%d): %v, error %d", sectors, d, err)
	}
	return d
}

func wantErr(t *testing.T, what string, got, want api.Errno) {
	t.Helper()
	if got != want {
		t.Errorf("%s: error %d, want %d", what, got, want)
	}
}

func wantRead(t *testing.T, d *disk.Disk, i int, want api.Block) {
	t.Helper()
	if got, err := d.Read(i); got != want || err != api.OK {
		t.Errorf("Read(%d): %v, error %d; want %v", i, got, err, want)
	}
}

// wantNoRead asks for that error, and for no bytes beside it.
func wantNoRead(t *testing.T, d *disk.Disk, i int, want api.Errno) {
	t.Helper()
	if got, err := d.Read(i); got != (api.Block{}) || err != want {
		t.Errorf("Read(%d): %v, error %d; want noughts, error %d", i, got, err, want)
	}
}

func wantPending(t *testing.T, d *disk.Disk, want ...int) {
	t.Helper()
	if got := d.Pending(); !slices.Equal(got, want) {
		t.Errorf("Pending: %v, want %v", got, want)
	}
}

func wantOps(t *testing.T, d *disk.Disk, want int) {
	t.Helper()
	if got := d.Ops(); got != want {
		t.Errorf("Ops: %d, want %d", got, want)
	}
}

func wantDead(t *testing.T, d *disk.Disk, want bool) {
	t.Helper()
	if got := d.Dead(); got != want {
		t.Errorf("Dead: %v, want %v", got, want)
	}
}

func mustWrite(t *testing.T, d *disk.Disk, i int, b api.Block) {
	t.Helper()
	wantErr(t, "Write", d.Write(i, b), api.OK)
}

func mustSync(t *testing.T, d *disk.Disk) {
	t.Helper()
	wantErr(t, "Sync", d.Sync(), api.OK)
}

// contents copies the disk, brings it its power again if it has gone, and reads all; with what is pending kept.
func contents(t *testing.T, d *disk.Disk) []api.Block {
	t.Helper()
	c := d.Copy()
	wantErr(t, "Crash", c.Crash(slices.Repeat([]bool{true}, len(c.Pending()))), api.OK)
	var list []api.Block
	for i := range c.Len() {
		b, err := c.Read(i)
		wantErr(t, "Read", err, api.OK)
		list = append(list, b)
	}
	return list
}

// killed is a disk of 4 whose power has gone, with x pending at 1.
func killed(t *testing.T) *disk.Disk {
	t.Helper()
	d := newDisk(t, 4)
	mustWrite(t, d, 1, x)
	wantErr(t, "Arm", d.Arm(0), api.OK)
	wantErr(t, "the Write with which the power goes", d.Write(2, y), api.ErrDead)
	return d
}

// P2.1: from 1 to 2048 sectors.
func TestNewAtTheEdges(t *testing.T) {
	for _, n := range []int{math.MinInt, -2048, -1, 0, 2049, math.MaxInt} {
		if d, err := disk.New(n); d != nil || err != api.ErrArg {
			t.Errorf("New(%d): %v, error %d; want nil, ErrArg", n, d, err)
		}
	}
	for _, n := range []int{1, 2, 4, 2047, 2048} {
		d := newDisk(t, n)
		if d.Len() != n {
			t.Errorf("Len of New(%d): %d", n, d.Len())
		}
		mustWrite(t, d, n-1, x)
		wantRead(t, d, n-1, x)
		wantErr(t, "Write behind the last", d.Write(n, x), api.ErrArg)
		wantNoRead(t, d, n, api.ErrArg)
	}
}

// P2.1: a new disk has noughts and power; nothing is pending, it is not armed and not set to fail.
func TestNewIsFresh(t *testing.T) {
	d := newDisk(t, 4)
	wantDead(t, d, false)
	wantPending(t, d)
	wantOps(t, d, 0)
	for i := range 4 {
		wantRead(t, d, i, api.Block{})
	}
	for range 100 {
		mustWrite(t, d, 3, x)
		mustSync(t, d)
	}
	wantDead(t, d, false)
}

// P2.1: Len stays, whatever comes; without power too.
func TestLenStays(t *testing.T) {
	d := killed(t)
	if d.Len() != 4 {
		t.Errorf("Len without power: %d", d.Len())
	}
	d.Crash(nil)
	if d.Len() != 4 {
		t.Errorf("Len behind a crash: %d", d.Len())
	}
}

// P2.2, P2.3 and P2.5: the chapter's first two examples.
func TestExampleOfPending(t *testing.T) {
	d := newDisk(t, 4)
	mustWrite(t, d, 1, x)
	mustWrite(t, d, 2, y)
	wantPending(t, d, 1, 2)
	wantRead(t, d, 1, x)
	wantErr(t, "Crash", d.Crash([]bool{false, true}), api.OK)
	wantRead(t, d, 1, api.Block{})
	wantRead(t, d, 2, y)
	wantPending(t, d)
}

// P2.2, P2.5: the chapter's third example.
func TestExampleOfSync(t *testing.T) {
	d := newDisk(t, 4)
	mustWrite(t, d, 1, x)
	mustSync(t, d)
	mustWrite(t, d, 1, z)
	wantErr(t, "Crash", d.Crash(nil), api.OK)
	wantRead(t, d, 1, x)
}

// P2.2, P2.4: the chapter's fourth example.
func TestExampleOfFail(t *testing.T) {
	d := newDisk(t, 4)
	mustWrite(t, d, 1, x)
	wantErr(t, "Fail", d.Fail(1), api.OK)
	wantRead(t, d, 1, x)
	wantErr(t, "Write that fails", d.Write(1, z), api.ErrIo)
	wantRead(t, d.Copy(), 1, x)
	wantErr(t, "Write behind it", d.Write(1, z), api.OK)
	wantRead(t, d, 1, z)
}

// P2.2, P2.4: the chapter's fifth example.
func TestExampleOfArm(t *testing.T) {
	d := newDisk(t, 4)
	wantErr(t, "Arm", d.Arm(1), api.OK)
	mustWrite(t, d, 0, x)
	wantDead(t, d, false)
	wantErr(t, "Write with which the power goes", d.Write(0, y), api.ErrDead)
	wantDead(t, d, true)
	wantNoRead(t, d, 0, api.ErrDead)
}

// P2.1, P2.2: the chapter's last example.
func TestExampleOfArguments(t *testing.T) {
	d := newDisk(t, 4)
	wantErr(t, "Write(4)", d.Write(4, x), api.ErrArg)
	_, err := disk.New(0)
	wantErr(t, "New(0)", err, api.ErrArg)
	_, err = disk.New(2049)
	wantErr(t, "New(2049)", err, api.ErrArg)
}

// P2.2: a sector holds what the last write of it said, and no other one is touched.
func TestWriteIsOfOneSector(t *testing.T) {
	d := newDisk(t, 4)
	for i := range 4 {
		mustWrite(t, d, i, block(byte(10+i)))
	}
	mustWrite(t, d, 2, x)
	mustWrite(t, d, 2, y)
	for i, want := range []api.Block{block(10), block(11), y, block(13)} {
		wantRead(t, d, i, want)
	}
	mustSync(t, d)
	for i, want := range []api.Block{block(10), block(11), y, block(13)} {
		wantRead(t, d, i, want)
	}
}

// P2.2: all 64 bytes are written, and read.
func TestBlockIsWhole(t *testing.T) {
	d := newDisk(t, 2)
	var b api.Block
	for i := range b {
		b[i] = byte(255 - i)
	}
	mustWrite(t, d, 1, b)
	wantRead(t, d, 1, b)
	mustSync(t, d)
	d.Crash(nil)
	wantRead(t, d, 1, b)
	wantRead(t, d, 0, api.Block{})
}

// P2.2: there is no sector below 0, and none behind the last; nothing changes.
func TestNoSuchSector(t *testing.T) {
	d := newDisk(t, 4)
	mustWrite(t, d, 3, x)
	before := contents(t, d)
	for _, i := range []int{math.MinInt, -4, -1, 4, 5, 2048, math.MaxInt} {
		wantNoRead(t, d, i, api.ErrArg)
		wantErr(t, "Write", d.Write(i, y), api.ErrArg)
	}
	wantPending(t, d, 3)
	wantOps(t, d, 1)
	if got := contents(t, d); !slices.Equal(got, before) {
		t.Errorf("what the disk holds has changed: %v", got)
	}
}

// P2.2, P2.3: a Sync takes all that is pending away, and may be asked for when nothing is.
func TestSyncLeavesNothingPending(t *testing.T) {
	d := newDisk(t, 4)
	mustSync(t, d)
	mustWrite(t, d, 3, x)
	mustWrite(t, d, 0, y)
	mustSync(t, d)
	wantPending(t, d)
	mustSync(t, d)
	mustWrite(t, d, 2, z)
	wantPending(t, d, 2)
	wantErr(t, "Crash", d.Crash([]bool{false, true, true}), api.OK)
	for i, want := range []api.Block{y, {}, {}, x} {
		wantRead(t, d, i, want)
	}
}

// P2.3: in the order of the writes, each as often as it was written; one that says what is there already too.
func TestPendingInOrder(t *testing.T) {
	d := newDisk(t, 4)
	for _, i := range []int{3, 0, 3, 3, 1, 0} {
		mustWrite(t, d, i, x)
	}
	wantPending(t, d, 3, 0, 3, 3, 1, 0)
	wantRead(t, d, 3, x)
	wantPending(t, d, 3, 0, 3, 3, 1, 0)
}

// P2.3: of a disk without power what is pending is told still.
func TestPendingWithoutPower(t *testing.T) {
	wantPending(t, killed(t), 1)
}

// P2.3, R3: the answer is new memory.
func TestPendingIsNewMemory(t *testing.T) {
	d := newDisk(t, 4)
	mustWrite(t, d, 3, x)
	mustWrite(t, d, 1, y)
	list := d.Pending()
	clear(list)
	_ = append(list[:1], 2)
	wantPending(t, d, 3, 1)
	d.Crash([]bool{true, true})
	wantRead(t, d, 3, x)
	wantRead(t, d, 1, y)
}

// R4: of a nil disk.
func TestNilDisk(t *testing.T) {
	var d *disk.Disk
	for _, i := range []int{-1, 0, 1} {
		wantNoRead(t, d, i, api.ErrNil)
		wantErr(t, "Write", d.Write(i, x), api.ErrNil)
		wantErr(t, "Arm", d.Arm(i), api.ErrNil)
		wantErr(t, "Fail", d.Fail(i), api.ErrNil)
	}
	wantErr(t, "Sync", d.Sync(), api.ErrNil)
	wantErr(t, "Crash", d.Crash(nil), api.ErrNil)
	wantErr(t, "Crash", d.Crash([]bool{true}), api.ErrNil)
	wantPending(t, d)
	wantOps(t, d, 0)
	wantDead(t, d, false)
	if d.Len() != 0 || d.Copy() != nil {
		t.Errorf("Len %d, Copy %v; want 0, nil", d.Len(), d.Copy())
	}
}

// P2.2, P2.4: without power all is ErrDead, of a sector that is not there too, and nothing changes.
func TestWithoutPower(t *testing.T) {
	d := killed(t)
	before := contents(t, d)
	for _, i := range []int{math.MinInt, -1, 0, 1, 3, 4, math.MaxInt} {
		wantNoRead(t, d, i, api.ErrDead)
		wantErr(t, "Write", d.Write(i, z), api.ErrDead)
		wantErr(t, "Arm", d.Arm(i), api.ErrDead)
		wantErr(t, "Fail", d.Fail(i), api.ErrDead)
	}
	wantErr(t, "Sync", d.Sync(), api.ErrDead)
	wantDead(t, d, true)
	wantPending(t, d, 1)
	wantOps(t, d, 1)
	if got := contents(t, d); !slices.Equal(got, before) {
		t.Errorf("what the disk holds has changed: %v", got)
	}
	wantErr(t, "Crash", d.Crash(nil), api.OK)
	wantRead(t, d, 1, api.Block{})
}

// P2.2: ErrArg goes ahead of ErrIo, ErrIo ahead of the ErrDead of an armed disk.
func TestOrderOfErrors(t *testing.T) {
	d := newDisk(t, 4)
	wantErr(t, "Arm", d.Arm(0), api.OK)
	wantErr(t, "Fail", d.Fail(0), api.OK)
	wantErr(t, "Write of no sector", d.Write(4, x), api.ErrArg)
	wantErr(t, "Write of no sector", d.Write(-1, x), api.ErrArg)
	wantNoRead(t, d, 4, api.ErrArg)
	wantDead(t, d, false)
	wantErr(t, "Write that fails", d.Write(0, x), api.ErrIo)
	wantDead(t, d, false)
	wantErr(t, "Write behind those of no sector", d.Write(4, x), api.ErrArg)
	wantDead(t, d, false)
	wantErr(t, "Write with which the power goes", d.Write(0, x), api.ErrDead)
	wantDead(t, d, true)
	wantErr(t, "Write of no sector, without power", d.Write(4, x), api.ErrDead)

	for what, change := range changes() {
		d := newDisk(t, 4)
		d.Arm(0)
		d.Fail(0)
		wantErr(t, what+" that fails", change(d), api.ErrIo)
		wantErr(t, what+" with which the power goes", change(d), api.ErrDead)
		wantDead(t, d, true)
	}
}

// changes are the operations that an armed disk counts.
func changes() map[string]func(*disk.Disk) api.Errno {
	return map[string]func(*disk.Disk) api.Errno{
		"Write": func(d *disk.Disk) api.Errno { return d.Write(1, y) },
		"Sync":  (*disk.Disk).Sync,
	}
}

// operations are those that a disk that is set to fail counts.
func operations() map[string]func(*disk.Disk) api.Errno {
	all := changes()
	all["Read"] = func(d *disk.Disk) api.Errno {
		_, err := d.Read(1)
		return err
	}
	return all
}

// P2.4: n more writes and syncs are done, and with the one behind them the power goes: nothing of it is done.
func TestArmCountsWritesAndSyncs(t *testing.T) {
	for what, change := range changes() {
		for n := range 4 {
			d := newDisk(t, 4)
			mustWrite(t, d, 1, x)
			wantErr(t, "Arm", d.Arm(n), api.OK)
			for range n {
				wantErr(t, what, change(d), api.OK)
				wantDead(t, d, false)
			}
			pending, held, ops := d.Pending(), contents(t, d), d.Ops()
			wantErr(t, what+" behind them", change(d), api.ErrDead)
			wantDead(t, d, true)
			wantPending(t, d, pending...)
			wantOps(t, d, ops)
			if got := contents(t, d); !slices.Equal(got, held) {
				t.Errorf("%s with which the power goes has changed what the disk holds: %v", what, got)
			}
		}
	}
}

// P2.4: writes and syncs are counted by one count.
func TestArmCountsBothTogether(t *testing.T) {
	d := newDisk(t, 4)
	d.Arm(3)
	mustWrite(t, d, 0, x)
	mustSync(t, d)
	mustWrite(t, d, 0, y)
	wantErr(t, "Sync", d.Sync(), api.ErrDead)
	wantPending(t, d, 0)
	d.Crash(nil)
	wantRead(t, d, 0, x)
}

// P2.4, P2.7: Reads, operations that fail, and what is asked of no sector do not bring an armed disk nearer to its end.
func TestArmCountsNothingElse(t *testing.T) {
	d := newDisk(t, 4)
	d.Arm(1)
	for range 10 {
		wantRead(t, d, 0, api.Block{})
		wantErr(t, "Write of no sector", d.Write(4, x), api.ErrArg)
		wantNoRead(t, d, -1, api.ErrArg)
		for what, operation := range operations() {
			d.Fail(0)
			wantErr(t, what+" that fails", operation(d), api.ErrIo)
		}
	}
	mustWrite(t, d, 0, x)
	wantRead(t, d, 0, x)
	wantDead(t, d, false)
	wantErr(t, "Write behind it", d.Write(0, y), api.ErrDead)
}

// P2.4: below 0 the disk is not armed any more; else it is armed anew, whatever it was armed with.
func TestArmAnew(t *testing.T) {
	for _, n := range []int{-1, -2, math.MinInt} {
		d := newDisk(t, 4)
		d.Arm(1)
		mustWrite(t, d, 0, x)
		wantErr(t, "Arm below 0", d.Arm(n), api.OK)
		for range 10 {
			mustWrite(t, d, 0, x)
		}
	}
	d := newDisk(t, 4)
	d.Arm(0)
	d.Arm(2)
	mustWrite(t, d, 0, x)
	d.Arm(math.MaxInt)
	for range 10 {
		mustSync(t, d)
	}
	d.Arm(0)
	wantErr(t, "Sync", d.Sync(), api.ErrDead)
}

// P2.4: the operation behind n more fails, and no other one; Reads are counted too.
func TestFailCountsOperations(t *testing.T) {
	for what, operation := range operations() {
		for n := range 4 {
			d := newDisk(t, 4)
			mustWrite(t, d, 1, x)
			wantErr(t, "Fail", d.Fail(n), api.OK)
			for range n {
				wantErr(t, what, operation(d), api.OK)
			}
			pending, held, ops := d.Pending(), contents(t, d), d.Ops()
			wantErr(t, what+" behind them", operation(d), api.ErrIo)
			wantDead(t, d, false)
			wantPending(t, d, pending...)
			wantOps(t, d, ops)
			if got := contents(t, d); !slices.Equal(got, held) {
				t.Errorf("%s that fails has changed what the disk holds: %v", what, got)
			}
			for range 10 {
				wantErr(t, what+" behind the one that failed", operation(d), api.OK)
			}
		}
	}
}

// P2.2, R2: a Read that fails answers no bytes.
func TestReadThatFails(t *testing.T) {
	d := newDisk(t, 4)
	mustWrite(t, d, 1, x)
	d.Fail(0)
	wantNoRead(t, d, 1, api.ErrIo)
	wantRead(t, d, 1, x)
}

// P2.4: the three kinds of operations are counted by one count; what is asked of no sector is none.
func TestFailCountsAllTogether(t *testing.T) {
	d := newDisk(t, 4)
	d.Fail(3)
	wantRead(t, d, 0, api.Block{})
	for range 10 {
		wantErr(t, "Write of no sector", d.Write(4, x), api.ErrArg)
		wantNoRead(t, d, -1, api.ErrArg)
		wantPending(t, d)
		wantErr(t, "Arm", d.Arm(-1), api.OK)
	}
	mustWrite(t, d, 0, x)
	mustSync(t, d)
	wantErr(t, "Sync", d.Sync(), api.ErrIo)
	mustSync(t, d)
}

// P2.4: below 0 it is not set to fail any more; else it is set anew, whatever it was set to.
func TestFailAnew(t *testing.T) {
	for _, n := range []int{-1, -2, math.MinInt} {
		d := newDisk(t, 4)
		d.Fail(1)
		mustSync(t, d)
		wantErr(t, "Fail below 0", d.Fail(n), api.OK)
		for range 10 {
			mustSync(t, d)
		}
	}
	d := newDisk(t, 4)
	d.Fail(0)
	d.Fail(2)
	mustSync(t, d)
	d.Fail(math.MaxInt)
	for range 10 {
		mustSync(t, d)
	}
	d.Fail(0)
	wantErr(t, "Sync", d.Sync(), api.ErrIo)
}

// P2.4: arming does not stop a disk that is set to fail, nor the other way round.
func TestArmAndFailBesideEachOther(t *testing.T) {
	d := newDisk(t, 4)
	d.Arm(2)
	d.Fail(1)
	mustWrite(t, d, 0, x)
	wantErr(t, "the operation behind 1", d.Write(1, x), api.ErrIo)
	mustWrite(t, d, 1, y)
	wantErr(t, "the write behind 2", d.Write(2, y), api.ErrDead)
	wantPending(t, d, 0, 1)

	d = newDisk(t, 4)
	d.Arm(2)
	d.Fail(1)
	d.Arm(-1)
	mustSync(t, d)
	wantErr(t, "Sync", d.Sync(), api.ErrIo)

	d = newDisk(t, 4)
	d.Fail(2)
	d.Arm(1)
	d.Fail(-1)
	mustSync(t, d)
	wantErr(t, "Sync", d.Sync(), api.ErrDead)
}

// P2.5: those live on at whose places keep has true; a place that it does not have is false, one that no write has counts for nothing.
func TestCrashKeeps(t *testing.T) {
	cases := []struct {
		keep []bool
		want [4]api.Block
	}{
		{nil, [4]api.Block{}},
		{[]bool{}, [4]api.Block{}},
		{[]bool{false}, [4]api.Block{}},
		{[]bool{false, false, false}, [4]api.Block{}},
		{[]bool{true}, [4]api.Block{3: x}},
		{[]bool{false, true}, [4]api.Block{1: y}},
		{[]bool{false, false, true}, [4]api.Block{0: z}},
		{[]bool{true, false, true}, [4]api.Block{0: z, 3: x}},
		{[]bool{true, true}, [4]api.Block{1: y, 3: x}},
		{[]bool{true, true, true}, [4]api.Block{0: z, 1: y, 3: x}},
		{[]bool{true, true, true, true, true}, [4]api.Block{0: z, 1: y, 3: x}},
		{[]bool{false, false, false, true, true}, [4]api.Block{}},
	}
	for _, c := range cases {
		d := newDisk(t, 4)
		mustWrite(t, d, 3, x)
		mustWrite(t, d, 1, y)
		mustWrite(t, d, 0, z)
		wantErr(t, "Crash", d.Crash(c.keep), api.OK)
		wantPending(t, d)
		for i, want := range c.want {
			wantRead(t, d, i, want)
		}
	}
}

// P2.5: of several writes of one sector the last one counts that lives on.
func TestCrashKeepsInOrder(t *testing.T) {
	safe := block(9)
	cases := []struct {
		keep []bool
		want api.Block
	}{
		{nil, safe},
		{[]bool{true}, x},
		{[]bool{false, true}, y},
		{[]bool{false, false, true}, z},
		{[]bool{true, true}, y},
		{[]bool{true, false, true}, z},
		{[]bool{false, true, true}, z},
		{[]bool{true, true, true}, z},
	}
	for _, c := range cases {
		d := newDisk(t, 2)
		mustWrite(t, d, 1, safe)
		mustSync(t, d)
		for _, b := range []api.Block{x, y, z} {
			mustWrite(t, d, 1, b)
		}
		d.Crash(c.keep)
		wantRead(t, d, 1, c.want)
		wantRead(t, d, 0, api.Block{})
	}
}

// P2.5: what lives on is safe, and what does not is gone for ever.
func TestCrashMakesSafe(t *testing.T) {
	d := newDisk(t, 4)
	mustWrite(t, d, 0, x)
	mustWrite(t, d, 1, y)
	d.Crash([]bool{true})
	mustWrite(t, d, 0, z)
	mustWrite(t, d, 1, z)
	wantPending(t, d, 0, 1)
	d.Crash(nil)
	wantRead(t, d, 0, x)
	wantRead(t, d, 1, api.Block{})
	d.Crash([]bool{true, true, true, true})
	wantRead(t, d, 0, x)
	wantRead(t, d, 1, api.Block{})
}

// P2.5: the power comes again, and nothing is left of arming and failing; with power that had not gone too.
func TestCrashBringsPower(t *testing.T) {
	for _, dead := range []bool{false, true} {
		d := newDisk(t, 4)
		mustWrite(t, d, 0, x)
		d.Fail(2)
		d.Arm(0)
		if dead {
			wantErr(t, "Sync", d.Sync(), api.ErrDead)
		}
		wantDead(t, d, dead)
		wantErr(t, "Crash", d.Crash([]bool{true}), api.OK)
		wantDead(t, d, false)
		wantRead(t, d, 0, x)
		for range 10 {
			mustWrite(t, d, 1, y)
			mustSync(t, d)
		}
		wantErr(t, "Arm", d.Arm(0), api.OK)
		wantErr(t, "Fail", d.Fail(0), api.OK)
		wantErr(t, "Write", d.Write(1, y), api.ErrIo)
		wantErr(t, "Write", d.Write(1, y), api.ErrDead)
	}
}

// P2.5, R3: keep is not changed and not kept, the room behind its end is not looked at.
func TestCrashLeavesKeep(t *testing.T) {
	room := []bool{true, false, true, true}
	d := newDisk(t, 4)
	for i := range 4 {
		mustWrite(t, d, i, x)
	}
	d.Crash(room[:2])
	if !slices.Equal(room, []bool{true, false, true, true}) {
		t.Errorf("keep has become %v", room)
	}
	for i, want := range []api.Block{x, {}, {}, {}} {
		wantRead(t, d, i, want)
	}
	clear(room)
	wantRead(t, d, 0, x)
}

// P2.6: what was done is counted, ever; no operation that failed, or was not done, or of no sector, and no other call.
func TestOps(t *testing.T) {
	d := newDisk(t, 4)
	wantRead(t, d, 0, api.Block{})
	wantOps(t, d, 1)
	mustWrite(t, d, 0, x)
	wantOps(t, d, 2)
	mustSync(t, d)
	wantOps(t, d, 3)
	d.Write(4, x)
	d.Read(-1)
	d.Len()
	d.Pending()
	d.Dead()
	d.Copy().Sync()
	wantOps(t, d, 3)
	for _, operation := range operations() {
		d.Fail(0)
		wantErr(t, "an operation that fails", operation(d), api.ErrIo)
	}
	wantOps(t, d, 3)
	d.Arm(0)
	wantErr(t, "Write", d.Write(0, y), api.ErrDead)
	wantErr(t, "Sync", d.Sync(), api.ErrDead)
	wantNoRead(t, d, 0, api.ErrDead)
	wantOps(t, d, 3)
	d.Crash(nil)
	wantOps(t, d, 3)
	mustSync(t, d)
	wantOps(t, d, 4)
}

// P2.6: a Copy has the same sectors and pending writes.
func TestCopyHasThePending(t *testing.T) {
	d := newDisk(t, 4)
	mustWrite(t, d, 0, x)
	mustSync(t, d)
	mustWrite(t, d, 0, y)
	mustWrite(t, d, 2, z)
	c := d.Copy()
	if c == d || c.Len() != 4 {
		t.Fatalf("Copy: the disk itself, or one of %d sectors", c.Len())
	}
	wantOps(t, c, 4)
	wantDead(t, c, false)
	wantPending(t, c, 0, 2)
	wantRead(t, c, 0, y)
	wantRead(t, c, 2, z)
	c.Crash([]bool{false, true})
	wantRead(t, c, 0, x)
	wantRead(t, c, 2, z)
	wantPending(t, d, 0, 2)
	d.Crash([]bool{true, false})
	wantRead(t, d, 0, y)
	wantRead(t, d, 2, api.Block{})
	wantRead(t, c, 0, x)
}

// P2.6: a Copy has the same power, arming and failing, and each goes on by itself.
func TestCopyHasThePower(t *testing.T) {
	d := newDisk(t, 4)
	d.Arm(1)
	d.Fail(1)
	c := d.Copy()
	for _, each := range []*disk.Disk{c, d} {
		mustWrite(t, each, 0, x)
		wantErr(t, "the operation behind 1", each.Write(0, y), api.ErrIo)
		wantErr(t, "the write behind 1", each.Write(0, y), api.ErrDead)
		wantDead(t, each, true)
	}
	dead := d.Copy()
	wantDead(t, dead, true)
	wantPending(t, dead, 0)
	dead.Crash([]bool{true})
	wantDead(t, dead, false)
	wantRead(t, dead, 0, x)
	wantDead(t, d, true)
	wantPending(t, d, 0)
}

// P2.6: writes to the one are not seen in the other, whichever comes first; the pending lists share no room.
func TestCopyGoesOnByItself(t *testing.T) {
	for more := range 9 {
		d := newDisk(t, 4)
		for range more {
			mustWrite(t, d, 0, x)
		}
		c := d.Copy()
		mustWrite(t, d, 1, y)
		mustWrite(t, c, 2, z)
		wantRead(t, d, 2, api.Block{})
		wantRead(t, c, 1, api.Block{})
		wantPending(t, d, append(make([]int, more), 1)...)
		wantPending(t, c, append(make([]int, more), 2)...)
		all := slices.Repeat([]bool{true}, more+1)
		d.Crash(all)
		c.Crash(all)
		wantRead(t, d, 1, y)
		wantRead(t, d, 2, api.Block{})
		wantRead(t, c, 1, api.Block{})
		wantRead(t, c, 2, z)
		mustSync(t, c)
		wantOps(t, d, more+4)
		wantOps(t, c, more+5)
	}
}

// model is a disk by the chapter's words: what is safe, and the writes since; read by going through them.
type model struct {
	safe    []api.Block
	sectors []int
	blocks  []api.Block
	dead    bool
	armed   int
	failing int
	ops     int
}

func (m *model) held(i int) api.Block {
	b := m.safe[i]
	for at, s := range m.sectors {
		if s == i {
			b = m.blocks[at]
		}
	}
	return b
}

// step asks for an operation: an error, or whether it is done.
func (m *model) step(i int, change bool) api.Errno {
	if m.dead {
		return api.ErrDead
	}
	if i < 0 || i >= len(m.safe) {
		return api.ErrArg
	}
	if m.failing == 0 {
		m.failing = -1
		return api.ErrIo
	}
	if m.failing > 0 {
		m.failing--
	}
	if change && m.armed == 0 {
		m.dead = true
		return api.ErrDead
	}
	if change && m.armed > 0 {
		m.armed--
	}
	m.ops++
	return api.OK
}

func (m *model) crash(keep []bool) {
	for at, s := range m.sectors {
		if at < len(keep) && keep[at] {
			m.safe[s] = m.blocks[at]
		}
	}
	*m = model{safe: m.safe, armed: -1, failing: -1, ops: m.ops}
}

func (m *model) sync() {
	for at, s := range m.sectors {
		m.safe[s] = m.blocks[at]
	}
	m.sectors, m.blocks = nil, nil
}

// P2.1 to P2.7: long rows of calls, held against the model.
func TestAgainstTheModel(t *testing.T) {
	for seed := range int64(300) {
		if !runAgainstTheModel(t, rand.New(rand.NewSource(seed))) {
			t.Fatalf("seed %d", seed)
		}
	}
}

func runAgainstTheModel(t *testing.T, chance *rand.Rand) bool {
	t.Helper()
	sectors := 1 + chance.Intn(5)
	d := newDisk(t, sectors)
	m := &model{safe: make([]api.Block, sectors), armed: -1, failing: -1}
	for range 200 {
		stepBoth(t, chance, d, m)
		wantPending(t, d, m.sectors...)
		wantOps(t, d, m.ops)
		wantDead(t, d, m.dead)
		c := d.Copy()
		c.Crash(nil)
		for i := range sectors {
			wantRead(t, c, i, m.safe[i])
		}
		for i, got := range contents(t, d) {
			if got != m.held(i) {
				t.Errorf("sector %d holds %v, want %v", i, got, m.held(i))
			}
		}
		if t.Failed() {
			return false
		}
		if chance.Intn(20) == 0 {
			d = d.Copy()
		}
	}
	return true
}

// stepBoth does one call to the disk and to the model.
func stepBoth(t *testing.T, chance *rand.Rand, d *disk.Disk, m *model) {
	t.Helper()
	i, n := chance.Intn(len(m.safe)+2)-1, chance.Intn(8)-1
	switch chance.Intn(12) {
	case 0, 1, 2, 3, 4:
		b := block(byte(chance.Intn(256)))
		want := m.step(i, true)
		if want == api.OK {
			m.sectors, m.blocks = append(m.sectors, i), append(m.blocks, b)
		}
		wantErr(t, "Write", d.Write(i, b), want)
	case 5, 6, 7:
		want := m.step(i, false)
		if want == api.OK {
			wantRead(t, d, i, m.held(i))
		} else {
			wantNoRead(t, d, i, want)
		}
	case 8:
		want := m.step(0, true)
		if want == api.OK {
			m.sync()
		}
		wantErr(t, "Sync", d.Sync(), want)
	case 9, 10:
		setBoth(t, chance.Intn(2) == 0, n, d, m)
	case 11:
		keep := make([]bool, chance.Intn(6))
		for at := range keep {
			keep[at] = chance.Intn(2) == 0
		}
		m.crash(keep)
		wantErr(t, "Crash", d.Crash(keep), api.OK)
	}
}

// setBoth arms both, or sets them to fail.
func setBoth(t *testing.T, arm bool, n int, d *disk.Disk, m *model) {
	t.Helper()
	call, count := d.Fail, &m.failing
	if arm {
		call, count = d.Arm, &m.armed
	}
	want := api.ErrDead
	if !m.dead {
		want, *count = api.OK, n
	}
	wantErr(t, "Arm or Fail", call(n), want)
}

// P2.7: what a disk holds behind a sync it holds behind any crash; behind a crash a sector holds what it held at some time since; with all kept nothing is lost, with none all that is not safe.
func TestWhatFollows(t *testing.T) {
	for mask := range 1 << 6 {
		d := newDisk(t, 3)
		for i := range 3 {
			mustWrite(t, d, i, block(byte(100+i)))
		}
		mustSync(t, d)
		safe := contents(t, d)
		seen := [3][]api.Block{{safe[0]}, {safe[1]}, {safe[2]}}
		for at, i := range []int{0, 1, 0, 2, 1, 0} {
			mustWrite(t, d, i, block(byte(at)))
			seen[i] = append(seen[i], block(byte(at)))
		}
		held := contents(t, d)
		keep := make([]bool, 6)
		for at := range keep {
			keep[at] = mask>>at&1 == 1
		}
		d.Crash(keep)
		got := contents(t, d)
		for i := range 3 {
			if !slices.Contains(seen[i], got[i]) {
				t.Errorf("keep %v: sector %d holds %v, which it never held", keep, i, got[i])
			}
		}
		if mask == 0 && !slices.Equal(got, safe) || mask == 1<<6-1 && !slices.Equal(got, held) {
			t.Errorf("keep %v: %v", keep, got)
		}
		d.Crash(nil)
		d.Crash(keep)
		if again := contents(t, d); !slices.Equal(again, got) {
			t.Errorf("keep %v: what a crash left safe is lost with another", keep)
		}
	}
}
