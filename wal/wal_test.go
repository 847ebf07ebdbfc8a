package wal_test

import (
	"bytes"
	"crypto/sha256"
	"encoding/binary"
	"fmt"
	"math"
	"reflect"
	"slices"
	"testing"

	"shipwright/api"
	"shipwright/disk"
	"shipwright/wal"
)

// What stands on a disk is laid here anew from the chapter's words, with the library's SHA-256, so that the tests do not lean on what they test.

// signed lays the sign of a sector's other bytes at a place of it.
func signed(b api.Block, at int) api.Block {
	sum := sha256.Sum256(append(slices.Clone(b[:at]), b[at+4:]...))
	copy(b[at:at+4], sum[:4])
	return b
}

func signedHead(b api.Block) api.Block { return signed(b, 60) }
func signedPart(b api.Block) api.Block { return signed(b, 12) }

func headBlock(turn, n uint32) api.Block {
	var b api.Block
	copy(b[:], "shipwal1")
	binary.BigEndian.PutUint32(b[8:], turn)
	binary.BigEndian.PutUint32(b[12:], n)
	return signedHead(b)
}

// partBlocks are the sectors of a frame.
func partBlocks(turn, number uint32, body []byte) []api.Block {
	all := binary.BigEndian.AppendUint32(nil, uint32(len(body)))
	all = append(all, body...)
	for len(all)%48 != 0 {
		all = append(all, 0)
	}
	var list []api.Block
	for i := range len(all) / 48 {
		var b api.Block
		binary.BigEndian.PutUint32(b[0:], turn)
		binary.BigEndian.PutUint32(b[4:], number)
		binary.BigEndian.PutUint16(b[8:], uint16(i))
		binary.BigEndian.PutUint16(b[10:], uint16(len(all)/48))
		copy(b[16:], all[48*i:48*i+48])
		list = append(list, signedPart(b))
	}
	return list
}

// some are n bytes that differ from those of another seed, and have no noughts among them.
func some(n int, seed byte) []byte {
	b := make([]byte, n)
	for i := range b {
		b[i] = 1 + byte((i*7+int(seed)*31+i/251)%255)
	}
	return b
}

// noise is a sector that is no part of anything, another one at each place.
func noise(i int) api.Block {
	var b api.Block
	copy(b[:], some(64, byte(i)))
	return b
}

// op is an operation of a disk: r, w or s.
type op struct {
	kind  byte
	at    int
	block api.Block
}

var syncing = op{kind: 's'}

func reads(first, n int) []op {
	var list []op
	for i := range n {
		list = append(list, op{kind: 'r', at: first + i})
	}
	return list
}

func writes(first int, blocks ...api.Block) []op {
	var list []op
	for i, b := range blocks {
		list = append(list, op{kind: 'w', at: first + i, block: b})
	}
	return list
}

func formatOps(area int) []op {
	return slices.Concat(
		writes(0, make([]api.Block, 2+2*area)...), []op{syncing},
		writes(2, partBlocks(0, 0, nil)...), []op{syncing},
		writes(0, headBlock(0, uint32(area))), []op{syncing})
}

func do(t *testing.T, d *disk.Disk, ops []op) {
	t.Helper()
	for _, o := range ops {
		err := api.OK
		switch o.kind {
		case 'r':
			_, err = d.Read(o.at)
		case 'w':
			err = d.Write(o.at, o.block)
		case 's':
			err = d.Sync()
		}
		if err != api.OK {
			t.Fatalf("operation %c of sector %d by hand: error %d", o.kind, o.at, err)
		}
	}
}

func newDisk(t *testing.T, sectors int) *disk.Disk {
	t.Helper()
	d, err := disk.New(sectors)
	if err != api.OK {
		t.Fatal("New:", err)
	}
	return d
}

// noisy is a disk no sector of which is noughts.
func noisy(t *testing.T, sectors int) *disk.Disk {
	t.Helper()
	d := newDisk(t, sectors)
	for i := range sectors {
		do(t, d, writes(i, noise(i)))
	}
	do(t, d, []op{syncing})
	return d
}

// laid is a disk with blocks from some sectors on, safe.
func laid(t *testing.T, sectors int, ops ...[]op) *disk.Disk {
	t.Helper()
	d := newDisk(t, sectors)
	do(t, d, slices.Concat(ops...))
	do(t, d, []op{syncing})
	return d
}

func format(t *testing.T, sectors, area int) (*disk.Disk, *wal.Wal) {
	t.Helper()
	d := newDisk(t, sectors)
	w, err := wal.Format(d, area)
	if err != api.OK || w == nil {
		t.Fatalf("Format(%d sectors, %d): %v, error %d", sectors, area, w, err)
	}
	return d, w
}

func open(t *testing.T, d *disk.Disk) *wal.Wal {
	t.Helper()
	w, err := wal.Open(d)
	if err != api.OK || w == nil {
		t.Fatalf("Open: %v, error %d", w, err)
	}
	return w
}

func wantErr(t *testing.T, what string, got, want api.Errno) {
	t.Helper()
	if got != want {
		t.Errorf("%s: error %d, want %d", what, got, want)
	}
}

// wantNoWal asks Open for that error, for no Wal beside it, and for no write.
func wantNoWal(t *testing.T, what string, d *disk.Disk, want api.Errno) {
	t.Helper()
	was := contents(t, d, all(d))
	if w, err := wal.Open(d); w != nil || err != want {
		t.Errorf("Open, %s: %v, error %d; want nil, error %d", what, w, err, want)
	}
	if !slices.Equal(contents(t, d, all(d)), was) || len(d.Pending()) != 0 {
		t.Errorf("Open, %s: it wrote, pending %v", what, d.Pending())
	}
}

// told is what a log tells.
type told struct {
	turn     uint32
	left     int
	snapshot string
	later    []string
}

func tell(t *testing.T, w *wal.Wal) told {
	t.Helper()
	k := told{turn: w.Turn(), left: w.Left(), snapshot: string(w.Snapshot())}
	for i, b := range w.All() {
		k.later = append(k.later, string(b))
		if i != len(k.later) {
			t.Errorf("All: number %d at place %d", i, len(k.later))
		}
	}
	if w.Len() != len(k.later) {
		t.Errorf("Len: %d, All told %d", w.Len(), len(k.later))
	}
	return k
}

func wantTold(t *testing.T, what string, got, want told) {
	t.Helper()
	if !reflect.DeepEqual(got, want) {
		t.Errorf("%s: told %s, want %s", what, got, want)
	}
}

func (k told) String() string {
	s := fmt.Sprintf("turn %d, left %d, snapshot %.40q (%d)", k.turn, k.left, k.snapshot, len(k.snapshot))
	for _, b := range k.later {
		s += fmt.Sprintf(", %.40q (%d)", b, len(b))
	}
	return s
}

// all is a list for Crash that keeps what is pending.
func all(d *disk.Disk) []bool {
	return slices.Repeat([]bool{true}, len(d.Pending()))
}

// contents is what the sectors would hold behind a crash.
func contents(t *testing.T, d *disk.Disk, keep []bool) []api.Block {
	t.Helper()
	c := d.Copy()
	wantErr(t, "Crash", c.Crash(keep), api.OK)
	list := make([]api.Block, c.Len())
	for i := range list {
		list[i], _ = c.Read(i)
	}
	return list
}

// wantSame asks that two disks have had the same done to them, as far as crashes can tell.
func wantSame(t *testing.T, what string, got, want *disk.Disk) {
	t.Helper()
	if got.Ops() != want.Ops() || !slices.Equal(got.Pending(), want.Pending()) {
		t.Errorf("%s: %d operations, pending %v; want %d, pending %v", what, got.Ops(), got.Pending(), want.Ops(), want.Pending())
		return
	}
	for n := range len(got.Pending()) + 1 {
		keep := all(got)[:n]
		if !slices.Equal(contents(t, got, keep), contents(t, want, keep)) {
			t.Errorf("%s: the disk is otherwise, with %d pending writes kept", what, n)
		}
	}
}

// wantOps asks that a call does just these operations, in order, whether all are done, or the power goes at one of them, or one fails. ready is what comes ahead; what it answers is the call, and a look at what is left behind it.
func wantOps(t *testing.T, what string, start *disk.Disk, ops []op, ready func(d *disk.Disk) (func() api.Errno, func(err api.Errno))) {
	t.Helper()
	writing := 0 // how many writes and syncs stand ahead
	for n := range len(ops) + 1 {
		done := n == len(ops)
		want := start.Copy()
		ready(want)
		do(t, want, ops[:n])

		d := start.Copy()
		call, look := ready(d)
		d.Fail(n)
		err := call()
		d.Fail(-1)
		name := fmt.Sprintf("%s, operation %d of %d failing", what, n, len(ops))
		wantErr(t, name, err, pick(done, api.OK, api.ErrIo))
		wantSame(t, name, d, want)
		look(err)

		if done || ops[n].kind != 'r' {
			d = start.Copy()
			call, look = ready(d)
			d.Arm(writing)
			err = call()
			d.Arm(-1)
			name = fmt.Sprintf("%s, armed with %d", what, writing)
			wantErr(t, name, err, pick(done, api.OK, api.ErrDead))
			wantSame(t, name, d, want)
			look(err)
			writing++
		}
	}
}

func pick(first bool, a, b api.Errno) api.Errno {
	if first {
		return a
	}
	return b
}

// The chapter's examples.
func TestExamples(t *testing.T) {
	d, w := format(t, 10, 4)
	wantTold(t, "Format", tell(t, w), told{turn: 0, left: 3})
	wantErr(t, "Append(44)", w.Append(some(44, 1)), api.OK)
	wantErr(t, "Append(45)", w.Append(some(45, 2)), api.OK)
	wantErr(t, "Append(1)", w.Append(some(1, 3)), api.ErrFull)
	wantTold(t, "full", tell(t, w), told{later: []string{string(some(44, 1)), string(some(45, 2))}})
	wantErr(t, "Checkpoint(1)", w.Checkpoint(some(1, 4)), api.OK)
	behind := told{turn: 1, left: 3, snapshot: string(some(1, 4))}
	wantTold(t, "Checkpoint", tell(t, w), behind)
	d.Arm(1)
	wantErr(t, "Append(45), armed", w.Append(some(45, 5)), api.ErrDead)
	wantErr(t, "Crash", d.Crash([]bool{true, true}), api.OK)
	wantTold(t, "Open", tell(t, open(t, d)), behind)
	wantNoWal(t, "a new disk", newDisk(t, 10), api.ErrWal)
}

// P4.1: areas from MinArea to MaxArea, and disks that have room for two and the heads.
func TestFormatAtTheEdges(t *testing.T) {
	for _, c := range []struct {
		sectors, area int
		want          api.Errno
	}{
		{10, 4, api.OK}, {11, 4, api.OK}, {2048, 4, api.OK}, {9, 4, api.ErrArg}, {1, 4, api.ErrArg},
		{12, 5, api.OK}, {11, 5, api.ErrArg},
		{2002, 1000, api.OK}, {2048, 1000, api.OK}, {2001, 1000, api.ErrArg},
		{10, 3, api.ErrArg}, {8, 3, api.ErrArg}, {2048, 1001, api.ErrArg}, {2048, 1023, api.ErrArg},
		{10, 0, api.ErrArg}, {10, -1, api.ErrArg}, {10, -4, api.ErrArg}, {10, math.MinInt, api.ErrArg}, {10, math.MaxInt, api.ErrArg},
		{10, math.MaxInt/2 + 1, api.ErrArg}, {10, math.MinInt / 2, api.ErrArg},
	} {
		d := noisy(t, c.sectors)
		was := d.Copy()
		w, err := wal.Format(d, c.area)
		what := fmt.Sprintf("Format(%d sectors, %d)", c.sectors, c.area)
		if err != c.want || (w == nil) != (err != api.OK) {
			t.Errorf("%s: %v, error %d; want error %d", what, w, err, c.want)
			continue
		}
		if err != api.OK {
			wantSame(t, what, d, was)
			continue
		}
		do(t, was, formatOps(c.area))
		wantSame(t, what, d, was)
		wantTold(t, what, tell(t, w), told{left: c.area - 1})
		wantTold(t, what+", Open", tell(t, open(t, d)), told{left: c.area - 1})
	}
}

// P4.1, R4: a nil disk is ErrNil, ahead of an area that may not be; that ahead of what a disk answers.
func TestFormatErrorsInOrder(t *testing.T) {
	for _, area := range []int{4, 3, -1} {
		if w, err := wal.Format(nil, area); w != nil || err != api.ErrNil {
			t.Errorf("Format(nil, %d): %v, error %d", area, w, err)
		}
	}
	d := newDisk(t, 10)
	d.Arm(0)
	wantErr(t, "Sync", d.Sync(), api.ErrDead)
	for area, want := range map[int]api.Errno{3: api.ErrArg, 5: api.ErrArg, 4: api.ErrDead} {
		if w, err := wal.Format(d, area); w != nil || err != want {
			t.Errorf("Format(a dead disk, %d): %v, error %d; want %d", area, w, err, want)
		}
	}
}

// P4.1: which writes and syncs, in order, the first one that fails or at which the power goes being told.
func TestFormatOperations(t *testing.T) {
	for _, c := range []struct{ sectors, area int }{{10, 4}, {13, 5}} {
		wantOps(t, "Format", noisy(t, c.sectors), formatOps(c.area), func(d *disk.Disk) (func() api.Errno, func(api.Errno)) {
			var w *wal.Wal
			call := func() (err api.Errno) {
				w, err = wal.Format(d, c.area)
				return err
			}
			return call, func(err api.Errno) {
				if (w == nil) != (err != api.OK) {
					t.Errorf("Format: %v beside error %d", w, err)
				}
				if w != nil && (w.Broken() || w.Disk() != d) {
					t.Error("Format: a Wal that is broken, or has another disk")
				}
			}
		})
	}
}

// P4.1: Format lays over whatever log was there.
func TestFormatAgain(t *testing.T) {
	d, w := format(t, 20, 9)
	wantErr(t, "Append", w.Append(some(200, 1)), api.OK)
	wantErr(t, "Checkpoint", w.Checkpoint(some(100, 2)), api.OK)
	w, err := wal.Format(d, 4)
	wantErr(t, "Format", err, api.OK)
	wantTold(t, "Format", tell(t, w), told{left: 3})
	wantTold(t, "Open", tell(t, open(t, d)), told{left: 3})
}

// P4.2, R4: nil, and disks without room for two heads: the disk's own error of a sector that is not there.
func TestOpenOfNothing(t *testing.T) {
	if w, err := wal.Open(nil); w != nil || err != api.ErrNil {
		t.Errorf("Open(nil): %v, error %d", w, err)
	}
	wantNoWal(t, "one sector", newDisk(t, 1), api.ErrArg)
	wantNoWal(t, "one sector, a head", laid(t, 1, writes(0, headBlock(0, 4))), api.ErrArg)
	wantNoWal(t, "two sectors", newDisk(t, 2), api.ErrWal)
	wantNoWal(t, "noise", noisy(t, 10), api.ErrWal)
	d := newDisk(t, 10)
	d.Arm(0)
	wantErr(t, "Sync", d.Sync(), api.ErrDead)
	if w, err := wal.Open(d); w != nil || err != api.ErrDead {
		t.Errorf("Open of a dead disk: %v, error %d", w, err)
	}
}

// headed is a disk with these two blocks at its beginning; in the areas of 4, wherever they can be, stand snapshots of the turns 0 to 9, each that of the last turn which would have been there.
func headed(t *testing.T, sectors int, zero, one api.Block) *disk.Disk {
	t.Helper()
	return laid(t, sectors, writes(0, zero, one), writes(2, partBlocks(4, 0, []byte("even"))...), writes(6, partBlocks(5, 0, []byte("odd"))...))
}

// P4.2, Words: a head is right only if each of its bytes is.
func TestEachByteOfAHead(t *testing.T) {
	wantTold(t, "as it is", tell(t, open(t, headed(t, 10, headBlock(4, 4), api.Block{}))), told{turn: 4, left: 3, snapshot: "even"})
	wantTold(t, "as it is", tell(t, open(t, headed(t, 10, api.Block{}, headBlock(5, 4)))), told{turn: 5, left: 3, snapshot: "odd"})
	for i := range 64 {
		for _, x := range []byte{1, 2, 0x80, 0xff} {
			even, odd := headBlock(4, 4), headBlock(5, 4)
			even[i] ^= x
			odd[i] ^= x
			wantNoWal(t, fmt.Sprintf("byte %d of both heads ^ %#x", i, x), headed(t, 10, even, odd), api.ErrWal)
			d := headed(t, 10, headBlock(4, 4), odd)
			wantTold(t, "the other head", tell(t, open(t, d)), told{turn: 4, left: 3, snapshot: "even"})
		}
	}
}

// P4.2, Words: a sign alone makes no head: letters, noughts, sector, n and the disk's room count, too.
func TestSignedHeadsThatAreWrong(t *testing.T) {
	for i := range 60 {
		if i >= 8 && i < 16 {
			continue
		}
		b := headBlock(4, 4)
		b[i] ^= 1
		wantNoWal(t, fmt.Sprintf("byte %d of a head that is signed", i), headed(t, 10, signedHead(b), api.Block{}), api.ErrWal)
	}
	for turn := range uint32(10) {
		zero, one := headBlock(turn, 4), headBlock(turn+1, 4)
		if turn%2 == 0 {
			zero, one = one, zero
		}
		wantNoWal(t, "heads in each other's sectors", headed(t, 10, zero, one), api.ErrWal)
	}
	for _, n := range []uint32{0, 1, 3, 5, 1001, 1 << 16, 1<<16 + 4, 1 << 31, 1<<31 + 4, math.MaxUint32, math.MaxUint32 - 3} {
		wantNoWal(t, fmt.Sprintf("n %d", n), headed(t, 10, headBlock(4, n), headBlock(5, n)), api.ErrWal)
	}
	for _, n := range []uint32{3, 1001, 1023, 1 << 20} {
		wantNoWal(t, fmt.Sprintf("n %d on a great disk", n), headed(t, 2048, headBlock(4, n), headBlock(5, n)), api.ErrWal)
	}
	wantNoWal(t, "a disk of one sector too few", laid(t, 9, writes(0, headBlock(4, 4)), writes(2, partBlocks(4, 0, nil)...)), api.ErrWal)
	wantNoWal(t, "a disk of one sector too few for 1000", laid(t, 2001, writes(0, headBlock(4, 1000)), writes(2, partBlocks(4, 0, nil)...)), api.ErrWal)
	d := laid(t, 2002, writes(0, headBlock(4, 1000)), writes(2, partBlocks(4, 0, nil)...))
	wantTold(t, "a disk with just room for 1000", tell(t, open(t, d)), told{turn: 4, left: 999})
}

// P4.2, Words: of two right heads that of the greater turn counts, in whichever sector; each has its own n.
func TestTheHeadThatCounts(t *testing.T) {
	for _, c := range []struct {
		even, odd uint32
		evenCount bool
	}{
		{0, 1, false}, {2, 1, true}, {4, 5, false}, {4, 3, true}, {1000, 1, true}, {0, 65537, false},
		{1 << 31, 1<<31 - 1, true}, {1 << 31, 1<<31 + 1, false}, {0, math.MaxUint32, false}, {math.MaxUint32 - 1, 1, true}, {math.MaxUint32 - 1, math.MaxUint32, false},
	} {
		d := laid(t, 20, writes(0, headBlock(c.even, 4), headBlock(c.odd, 7)),
			writes(2, partBlocks(c.even, 0, []byte("even"))...), writes(9, partBlocks(c.odd, 0, []byte("odd"))...))
		want := told{turn: c.odd, left: 6, snapshot: "odd"}
		if c.evenCount {
			want = told{turn: c.even, left: 3, snapshot: "even"}
		}
		wantTold(t, fmt.Sprintf("heads of turns %d and %d", c.even, c.odd), tell(t, open(t, d)), want)
	}
}

// P4.2: where the head that counts has no snapshot, the other head does not help.
func TestNoSnapshot(t *testing.T) {
	even := slices.Concat(writes(0, headBlock(4, 4), headBlock(5, 4)), writes(2, partBlocks(4, 0, []byte("even"))...))
	for what, blocks := range map[string][]api.Block{
		"noughts":               {{}},
		"noise":                 {noise(1)},
		"another turn":          partBlocks(4, 0, nil),
		"a later turn":          partBlocks(7, 0, nil),
		"number 1":              partBlocks(5, 1, nil),
		"noughts ahead":         slices.Concat([]api.Block{{}}, partBlocks(5, 0, nil)),
		"cut off":               partBlocks(5, 0, some(50, 1))[:1],
		"without its beginning": partBlocks(5, 0, some(50, 1))[1:],
		"beyond the area":       partBlocks(5, 0, some(189, 1))[:4],
	} {
		wantNoWal(t, what, laid(t, 10, even, writes(6, blocks...)), api.ErrWal)
	}
	beyond := laid(t, 11, even, writes(6, partBlocks(5, 0, some(189, 1))...))
	wantNoWal(t, "one sector beyond the area, that is there", beyond, api.ErrWal)
	just := laid(t, 11, even, writes(6, partBlocks(5, 0, some(188, 1))...))
	wantTold(t, "as long as the area", tell(t, open(t, just)), told{turn: 5, snapshot: string(some(188, 1))})
}

// P4.2, Words: a frame stands only if each byte of each of its parts' sectors does.
func TestEachByteOfAPart(t *testing.T) {
	first, second := some(60, 1), some(100, 2) // 2 and 3 sectors
	frames := slices.Concat(partBlocks(3, 0, nil), partBlocks(3, 1, first), partBlocks(3, 2, second))
	lay := func(blocks []api.Block) *disk.Disk {
		return laid(t, 18, writes(1, headBlock(3, 8)), writes(10, blocks...))
	}
	wantTold(t, "as they are", tell(t, open(t, lay(frames))), told{turn: 3, left: 2, later: []string{string(first), string(second)}})
	for i := 1; i < len(frames); i++ {
		want := told{turn: 3, left: 7}
		if i > 2 {
			want = told{turn: 3, left: 5, later: []string{string(first)}}
		}
		for at := range 64 {
			for _, x := range []byte{1, 0x80} {
				blocks := slices.Clone(frames)
				blocks[i][at] ^= x
				wantTold(t, fmt.Sprintf("byte %d of sector %d", at, i), tell(t, open(t, lay(blocks))), want)
			}
		}
	}
}

// P4.2, Words: a sign alone makes no part: its numbers, the count, and the noughts behind the bytes count, too.
func TestSignedPartsThatAreWrong(t *testing.T) {
	first := some(60, 1) // 2 sectors; 32 noughts behind
	frames := slices.Concat(partBlocks(3, 0, nil), partBlocks(3, 1, first))
	lay := func(blocks []api.Block) *disk.Disk {
		return laid(t, 18, writes(1, headBlock(3, 8)), writes(10, blocks...))
	}
	for part := range 2 {
		for at := range 64 {
			if at >= 12 && at < 16 || part == 0 && at >= 19 || part == 1 && at < 32 && at >= 16 {
				continue // the sign, the lowest byte of the count, and the frame's own bytes
			}
			for _, x := range []byte{1, 2, 0x80, 0xff} {
				blocks := slices.Clone(frames)
				blocks[1+part][at] ^= x
				blocks[1+part] = signedPart(blocks[1+part])
				wantTold(t, fmt.Sprintf("byte %d ^ %#x of part %d, signed", at, x, part), tell(t, open(t, lay(blocks))), told{turn: 3, left: 7})
			}
		}
	}
	for n, want := range map[byte]told{
		0:  {turn: 3, left: 7},
		44: {turn: 3, left: 7}, // would be one part
		45: {turn: 3, left: 7}, // would have no noughts behind
		59: {turn: 3, left: 7},
		61: {turn: 3, left: 5, later: []string{string(first) + "\x00"}},
		92: {turn: 3, left: 5, later: []string{string(first) + string(make([]byte, 32))}},
		93: {turn: 3, left: 7}, // would be three parts
	} {
		blocks := slices.Clone(frames)
		blocks[1][19] = n
		blocks[1] = signedPart(blocks[1])
		wantTold(t, fmt.Sprintf("a count of %d, signed", n), tell(t, open(t, lay(blocks))), want)
	}
	// Both parts say that there are three, or one, and agree in it.
	for _, parts := range []byte{0, 1, 3} {
		blocks := slices.Clone(frames)
		for i := 1; i < 3; i++ {
			blocks[i][11] = parts
			blocks[i] = signedPart(blocks[i])
		}
		wantTold(t, "another count of parts", tell(t, open(t, lay(blocks))), told{turn: 3, left: 7})
	}
	// One part more than the bytes need, all of noughts.
	long := partBlocks(3, 1, slices.Concat(first, make([]byte, 40)))
	binary.BigEndian.PutUint32(long[0][16:], 60)
	long[0] = signedPart(long[0])
	wantTold(t, "one part too many", tell(t, open(t, lay(slices.Concat(frames[:1], long)))), told{turn: 3, left: 7})
}

// P4.2, Words: the chain ends at the first number that does not stand behind the last one.
func TestWhereTheChainEnds(t *testing.T) {
	one, two, three := partBlocks(2, 1, []byte("one")), partBlocks(2, 2, some(60, 2)), partBlocks(2, 3, []byte("three"))
	none := []api.Block{{}}
	for _, c := range []struct {
		what   string
		blocks []api.Block
		want   []string
	}{
		{"all", slices.Concat(one, two, three), []string{"one", string(some(60, 2)), "three"}},
		{"nothing", nil, nil},
		{"a gap", slices.Concat(one, none, two, three), []string{"one"}},
		{"a gap at first", slices.Concat(none, one, two), nil},
		{"number 2 at first", slices.Concat(two, three), nil},
		{"number 1 twice", slices.Concat(one, one, two), []string{"one"}},
		{"number 0 again", slices.Concat(partBlocks(2, 0, nil), one), nil},
		{"number 3 behind 1", slices.Concat(one, three), []string{"one"}},
		{"an older turn", slices.Concat(one, partBlocks(0, 2, []byte("old")), three), []string{"one"}},
		{"a later turn", slices.Concat(one, partBlocks(4, 2, []byte("new")), three), []string{"one"}},
		{"parts in another order", slices.Concat(one, two[1:], two[:1], three), []string{"one"}},
		{"a part twice", slices.Concat(one, two[:1], two, three), []string{"one"}},
		{"a part missing", slices.Concat(one, two[:1], three), []string{"one"}},
		{"parts of two frames", slices.Concat(one, two[:1], partBlocks(2, 3, some(60, 2))[1:]), []string{"one"}},
		{"parts of two turns", slices.Concat(one, two[:1], partBlocks(4, 2, some(60, 2))[1:]), []string{"one"}},
	} {
		d := laid(t, 18, writes(0, headBlock(2, 8)), writes(2, partBlocks(2, 0, []byte("zero"))...), writes(3, c.blocks...))
		left := 7
		for _, b := range c.want {
			left -= wal.Sectors(len(b))
		}
		wantTold(t, c.what, tell(t, open(t, d)), told{turn: 2, left: left, snapshot: "zero", later: c.want})
		for i, b := range contents(t, d, nil)[10-left : 10] {
			if b != (api.Block{}) {
				t.Errorf("%s: sector %d behind the chain is not noughts", c.what, 10-left+i)
			}
		}
	}
}

// P4.2: a chain that fills its area to the last sector, in both areas; a frame that ends one sector behind the area does not stand, though its last part is there.
func TestChainThatFillsItsArea(t *testing.T) {
	for turn := range uint32(2) {
		from := 2 + 5*int(turn)
		last, beyond := some(92, 3), some(93, 3)
		blocks := slices.Concat(partBlocks(turn, 0, []byte("s")), partBlocks(turn, 1, some(45, 1)))
		d := laid(t, 13, writes(int(turn), headBlock(turn, 5)), writes(from, blocks...), writes(from+3, partBlocks(turn, 2, last)...))
		was := d.Copy()
		w := open(t, d)
		wantTold(t, "filled", tell(t, w), told{turn: turn, snapshot: "s", later: []string{string(some(45, 1)), string(last)}})
		do(t, was, slices.Concat(reads(0, 2), reads(from, 5)))
		wantSame(t, "Open of a full area", d, was)
		wantErr(t, "Append of nothing", w.Append(nil), api.ErrFull)
		wantSame(t, "Append that is refused", d, was)

		d = laid(t, 13, writes(int(turn), headBlock(turn, 5)), writes(from, blocks...), writes(from+3, partBlocks(turn, 2, beyond)...))
		want := contents(t, d, nil)
		want[from+3], want[from+4] = api.Block{}, api.Block{}
		wantTold(t, "beyond", tell(t, open(t, d)), told{turn: turn, left: 2, snapshot: "s", later: []string{string(some(45, 1))}})
		if !slices.Equal(contents(t, d, nil), want) {
			t.Error("Open wiped other sectors than those of the area behind the chain")
		}
	}
}

// P4.2, P4.4: frames of MaxTx bytes stand; one byte more is no frame, though all else is right. A count that leads far beyond is none, either.
func TestCountsAtTheEdges(t *testing.T) {
	for _, n := range []int{0, 44, 45, 39999, api.MaxTx} {
		d := laid(t, 2002, writes(0, headBlock(0, 1000)), writes(2, partBlocks(0, 0, some(n, 1))...))
		wantTold(t, fmt.Sprint(n, " bytes"), tell(t, open(t, d)), told{left: 1000 - (n+4+47)/48, snapshot: string(some(n, 1))})
	}
	for _, n := range []int{api.MaxTx + 1, api.MaxTx + 28, 40029, 47996} {
		d := laid(t, 2002, writes(0, headBlock(0, 1000)), writes(2, partBlocks(0, 0, some(n, 1))...))
		wantNoWal(t, fmt.Sprint(n, " bytes"), d, api.ErrWal)
	}
	for _, n := range []uint32{1 << 16, 1 << 31, 1<<31 + 1, math.MaxUint32, math.MaxUint32 - 3} {
		b := partBlocks(0, 0, nil)[0]
		binary.BigEndian.PutUint32(b[16:], n)
		wantNoWal(t, fmt.Sprint("a count of ", n), laid(t, 10, writes(0, headBlock(0, 4)), writes(2, signedPart(b))), api.ErrWal)
	}
}

// P4.2: which reads, writes and syncs, in order; noughts are written to just those sectors behind the chain that hold something else, and Open of what is left then writes nothing.
func TestOpenOperations(t *testing.T) {
	for turn := range uint32(2) {
		from := 2 + 6*int(turn)
		start := noisy(t, 15)
		do(t, start, slices.Concat(
			writes(int(turn), headBlock(turn, 6)),
			writes(from, partBlocks(turn, 0, []byte("s"))...),
			writes(from+1, partBlocks(turn, 1, []byte("one"))...),
			writes(from+2, noise(40), api.Block{}, noise(41), api.Block{63: 1}), []op{syncing}))
		want := told{turn: turn, left: 4, snapshot: "s", later: []string{"one"}}
		looking := slices.Concat(reads(0, 2), reads(from, 6))
		ops := slices.Concat(looking, writes(from+2, api.Block{}), writes(from+4, api.Block{}, api.Block{}), []op{syncing})
		ready := func(d *disk.Disk) (func() api.Errno, func(api.Errno)) {
			var w *wal.Wal
			call := func() (err api.Errno) {
				w, err = wal.Open(d)
				return err
			}
			return call, func(err api.Errno) {
				if (w == nil) != (err != api.OK) {
					t.Errorf("Open: %v beside error %d", w, err)
				}
				if w != nil {
					wantTold(t, "Open", tell(t, w), want)
				}
				if !d.Dead() {
					wantTold(t, "Open behind an Open", tell(t, open(t, d.Copy())), want)
				}
				for left := range crashed(t, d) {
					wantTold(t, "Open behind an Open and a crash", tell(t, open(t, left)), want)
				}
				if w != nil && (w.Broken() || w.Disk() != d) {
					t.Error("Open: a Wal that is broken, or has another disk")
				}
			}
		}
		wantOps(t, "Open", start, ops, ready)
		open(t, start)
		wantOps(t, "Open again", start, looking, ready)
	}
}

// P4.2: what can be told of an error of the disk goes ahead of ErrWal only as far as it is read: heads first, then the area.
func TestOpenErrorsInOrder(t *testing.T) {
	for n := range 3 {
		d := newDisk(t, 10)
		d.Fail(n)
		wantNoWal(t, fmt.Sprint("no head, failing at ", n), d, pick(n < 2, api.ErrIo, api.ErrWal))
	}
	for n := range 7 {
		d := laid(t, 10, writes(0, headBlock(0, 4)))
		d.Fail(n)
		wantNoWal(t, fmt.Sprint("no snapshot, failing at ", n), d, pick(n < 6, api.ErrIo, api.ErrWal))
	}
}

// behind is a log of areas of 6 on a disk of 15: turn 3 (area 1) with a snapshot and one transaction, and sectors of an older turn in the other area.
func behind(t *testing.T) (*disk.Disk, told) {
	t.Helper()
	d, w := format(t, 15, 6)
	wantErr(t, "Checkpoint", w.Checkpoint(nil), api.OK)
	wantErr(t, "Checkpoint", w.Checkpoint(nil), api.OK)
	wantErr(t, "Append", w.Append(some(188, 9)), api.OK)
	wantErr(t, "Checkpoint", w.Checkpoint([]byte("snap")), api.OK)
	wantErr(t, "Append", w.Append([]byte("one")), api.OK)
	return d, told{turn: 3, left: 4, snapshot: "snap", later: []string{"one"}}
}

// wantBroken asks a log that is broken that it refuses all, does nothing more to its disk, though that has power again, and tells what it told.
func wantBroken(t *testing.T, what string, w *wal.Wal, want told) {
	t.Helper()
	if !w.Broken() {
		t.Errorf("%s: not broken", what)
	}
	d := w.Disk()
	wantErr(t, "Crash", d.Crash(all(d)), api.OK)
	was := d.Copy()
	for _, n := range []int{0, 1, 45, 300, api.MaxTx} {
		wantErr(t, what+", Append", w.Append(some(n, 1)), api.ErrIo)
		wantErr(t, what+", Checkpoint", w.Checkpoint(some(n, 1)), api.ErrIo)
	}
	wantErr(t, what+", Append", w.Append(some(api.MaxTx+1, 1)), api.ErrLong)
	wantErr(t, what+", Checkpoint", w.Checkpoint(some(api.MaxTx+1, 1)), api.ErrLong)
	wantSame(t, what, d, was)
	wantTold(t, what, tell(t, w), want)
	if !w.Broken() || w.Disk() != d {
		t.Errorf("%s: broken no more, or another disk", what)
	}
}

// P4.3: which writes and syncs, in order; the first one that fails breaks the log, and is told.
func TestAppendAndCheckpointOperations(t *testing.T) {
	start, was := behind(t)
	for _, n := range []int{0, 1, 44, 45, 92, 93, 188} {
		b := some(n, byte(n))
		fills := (n + 4 + 47) / 48
		appended := told{turn: 3, left: 4 - fills, snapshot: "snap", later: []string{"one", string(b)}}
		replaced := told{turn: 4, left: 6 - fills, snapshot: string(b)}
		for _, c := range []struct {
			what string
			ops  []op
			call func(w *wal.Wal) api.Errno
			want told
		}{
			{"Append", slices.Concat(writes(10, partBlocks(3, 2, b)...), []op{syncing}), func(w *wal.Wal) api.Errno { return w.Append(b) }, appended},
			{"Checkpoint", slices.Concat(writes(2, partBlocks(4, 0, b)...), []op{syncing}, writes(0, headBlock(4, 6)), []op{syncing}), func(w *wal.Wal) api.Errno { return w.Checkpoint(b) }, replaced},
		} {
			what := fmt.Sprintf("%s of %d bytes", c.what, n)
			wantOps(t, what, start, c.ops, func(d *disk.Disk) (func() api.Errno, func(api.Errno)) {
				w := open(t, d)
				return func() api.Errno { return c.call(w) }, func(err api.Errno) {
					if err != api.OK {
						wantBroken(t, what, w, was)
						return
					}
					wantTold(t, what, tell(t, w), c.want)
					if w.Broken() || w.Disk() != d {
						t.Errorf("%s: broken, or another disk", what)
					}
					wantTold(t, what+", Open", tell(t, open(t, d)), c.want)
				}
			})
		}
	}
}

// P4.3: a disk whose power went without the log breaks it at the next write.
func TestDeadBehindTheLogsBack(t *testing.T) {
	for _, call := range []func(w *wal.Wal) api.Errno{
		func(w *wal.Wal) api.Errno { return w.Append(nil) },
		func(w *wal.Wal) api.Errno { return w.Checkpoint(nil) },
	} {
		d, was := behind(t)
		w := open(t, d)
		d.Arm(0)
		wantErr(t, "Sync", d.Sync(), api.ErrDead)
		if w.Broken() {
			t.Error("broken ahead of a write")
		}
		wantErr(t, "the call", call(w), api.ErrDead)
		wantBroken(t, "dead", w, was)
	}
}

// P4.3: what has no room is refused, to the sector; the log is not broken, and nothing is done.
func TestFull(t *testing.T) {
	d, was := behind(t)
	w := open(t, d)
	same := d.Copy()
	wantErr(t, "Append of 5 sectors, 4 left", w.Append(some(189, 1)), api.ErrFull)
	wantErr(t, "Append of MaxTx", w.Append(some(api.MaxTx, 1)), api.ErrFull)
	wantErr(t, "Checkpoint of 7 sectors", w.Checkpoint(some(6*48-3, 1)), api.ErrFull)
	wantErr(t, "Checkpoint of MaxTx", w.Checkpoint(some(api.MaxTx, 1)), api.ErrFull)
	wantSame(t, "refused", d, same)
	wantTold(t, "refused", tell(t, w), was)
	if w.Broken() {
		t.Error("broken by what was refused")
	}
	wantErr(t, "Append of 4 sectors", w.Append(some(188, 1)), api.OK)
	wantErr(t, "Append of nothing, none left", w.Append(nil), api.ErrFull)
	wantErr(t, "Checkpoint of 6 sectors", w.Checkpoint(some(6*48-4, 2)), api.OK)
	want := told{turn: 4, snapshot: string(some(6*48-4, 2))}
	wantTold(t, "filled by a snapshot", tell(t, w), want)
	wantTold(t, "filled by a snapshot, Open", tell(t, open(t, d)), want)
	wantErr(t, "Append behind it", w.Append(nil), api.ErrFull)
	wantErr(t, "Checkpoint of nothing", w.Checkpoint(nil), api.OK)
	wantTold(t, "and again", tell(t, w), told{turn: 5, left: 5})
}

// P4.3: the errors in the order in which they are named; a refusal does not break a log.
func TestErrorsInOrder(t *testing.T) {
	var none *wal.Wal
	for _, n := range []int{0, api.MaxTx, api.MaxTx + 1} {
		wantErr(t, "Append of nil", none.Append(some(n, 1)), api.ErrNil)
		wantErr(t, "Checkpoint of nil", none.Checkpoint(some(n, 1)), api.ErrNil)
	}
	d, w := format(t, 10, 4)
	same := d.Copy()
	for _, n := range []int{api.MaxTx + 1, api.MaxTx + 1000} {
		wantErr(t, "Append", w.Append(some(n, 1)), api.ErrLong)
		wantErr(t, "Checkpoint", w.Checkpoint(some(n, 1)), api.ErrLong)
	}
	wantErr(t, "Append", w.Append(some(api.MaxTx, 1)), api.ErrFull)
	wantSame(t, "refused", d, same)
	if w.Broken() {
		t.Error("broken by what was refused")
	}
}

// P4.3: frames of MaxTx bytes go in, and come out.
func TestTheLongest(t *testing.T) {
	d, w := format(t, 2002, 1000)
	wantErr(t, "Append", w.Append(some(api.MaxTx, 1)), api.OK)
	wantErr(t, "Append", w.Append(some(165*48-3, 2)), api.ErrFull)
	wantErr(t, "Append", w.Append(some(165*48-4, 2)), api.OK)
	want := told{later: []string{string(some(api.MaxTx, 1)), string(some(165*48-4, 2))}}
	wantTold(t, "Append", tell(t, w), want)
	wantTold(t, "Append, Open", tell(t, open(t, d)), want)
	wantErr(t, "Checkpoint", w.Checkpoint(some(api.MaxTx, 3)), api.OK)
	want = told{turn: 1, left: 166, snapshot: string(some(api.MaxTx, 3))}
	wantTold(t, "Checkpoint", tell(t, w), want)
	wantTold(t, "Checkpoint, Open", tell(t, open(t, d)), want)
}

// P4.3: no turn stands behind 2^32 - 1; Append goes on there.
func TestTheLastTurn(t *testing.T) {
	const last = math.MaxUint32
	d := laid(t, 10, writes(0, headBlock(last-1, 4)), writes(2, partBlocks(last-1, 0, []byte("s"))...))
	w := open(t, d)
	wantErr(t, "Checkpoint", w.Checkpoint([]byte("t")), api.OK)
	wantTold(t, "the last turn", tell(t, w), told{turn: last, left: 3, snapshot: "t"})
	w = open(t, d)
	wantTold(t, "the last turn, Open", tell(t, w), told{turn: last, left: 3, snapshot: "t"})
	same := d.Copy()
	wantErr(t, "Checkpoint", w.Checkpoint([]byte("u")), api.ErrFull)
	wantErr(t, "Checkpoint", w.Checkpoint(some(api.MaxTx+1, 1)), api.ErrLong)
	wantSame(t, "refused", d, same)
	if w.Broken() {
		t.Error("broken by what was refused")
	}
	wantErr(t, "Append", w.Append([]byte("v")), api.OK)
	want := told{turn: last, left: 2, snapshot: "t", later: []string{"v"}}
	wantTold(t, "Append", tell(t, w), want)
	wantTold(t, "Append, Open", tell(t, open(t, d)), want)
	d.Fail(0)
	wantErr(t, "Append", w.Append([]byte("w")), api.ErrIo)
	wantErr(t, "Checkpoint of a broken log", w.Checkpoint([]byte("u")), api.ErrIo)
}

// P4.4, R4: of nil nothing is told.
func TestNil(t *testing.T) {
	var w *wal.Wal
	if w.Snapshot() != nil || w.Len() != 0 || w.Left() != 0 || w.Turn() != 0 || w.Broken() || w.Disk() != nil {
		t.Error("nil tells something")
	}
	for i, b := range w.All() {
		t.Errorf("All of nil: %d, %v", i, b)
	}
}

// P4.4: All tells what there was when it was called, whatever is done then, ahead of it or in its midst; it may be left early, and gone through again.
func TestAllAsItWas(t *testing.T) {
	d, w := format(t, 22, 10)
	var early []func(func(int, []byte) bool)
	for n := range 4 {
		early = append(early, w.All())
		wantErr(t, "Append", w.Append(some(3, byte(n))), api.OK)
	}
	early = append(early, w.All())
	// In its midst: what is appended, or checkpointed, is not told.
	count := 0
	for range w.All() {
		if count++; count == 2 {
			wantErr(t, "Append", w.Append([]byte("late")), api.OK)
		}
		if count == 3 {
			wantErr(t, "Checkpoint", w.Checkpoint([]byte("snap")), api.OK)
			wantErr(t, "Append", w.Append([]byte("other")), api.OK)
		}
	}
	if count != 4 {
		t.Errorf("All told %d, want 4", count)
	}
	d.Fail(0)
	wantErr(t, "Append", w.Append(nil), api.ErrIo)
	for again := range 2 {
		for n, each := range early {
			var got []string
			each(func(i int, b []byte) bool {
				got = append(got, fmt.Sprint(i, b))
				clear(b)
				return true
			})
			var want []string
			for i := range n {
				want = append(want, fmt.Sprint(i+1, some(3, byte(i))))
			}
			if !slices.Equal(got, want) {
				t.Errorf("All of %d, gone through %d times: %v, want %v", n, again, got, want)
			}
			for stop := 1; stop <= n; stop++ {
				calls := 0
				each(func(int, []byte) bool {
					calls++
					return calls < stop
				})
				if calls != stop {
					t.Errorf("All, left at %d: %d calls", stop, calls)
				}
			}
		}
	}
}

// P4.4: how many sectors a frame fills.
func TestSectors(t *testing.T) {
	for n, want := range map[int]int{0: 1, 1: 1, 43: 1, 44: 1, 45: 2, 92: 2, 93: 3, 39980: 833, 39981: 834, 40000: 834, 40001: 0, -1: 0, -48: 0, math.MinInt: 0, math.MaxInt: 0} {
		if got := wal.Sectors(n); got != want {
			t.Errorf("Sectors(%d): %d, want %d", n, got, want)
		}
	}
	for n := range api.MaxTx + 1 {
		if got, want := wal.Sectors(n), int(math.Ceil(float64(4+n)/48)); got != want {
			t.Fatalf("Sectors(%d): %d, want %d", n, got, want)
		}
	}
}

// R3: what is handed in is neither changed nor kept, nor is the room behind its end; what is told is new memory each time.
func TestNothingShared(t *testing.T) {
	d, w := format(t, 22, 10)
	room := some(200, 1)
	snapshot, later := room[:50], room[100:150]
	wantErr(t, "Checkpoint", w.Checkpoint(snapshot), api.OK)
	wantErr(t, "Append", w.Append(later), api.OK)
	wantErr(t, "Append", w.Append(later), api.OK)
	if !bytes.Equal(room, some(200, 1)) {
		t.Error("what was handed in is changed")
	}
	want := told{turn: 1, left: 4, snapshot: string(snapshot), later: []string{string(later), string(later)}}
	clear(room)
	wantTold(t, "what was handed in is kept", tell(t, w), want)
	for _, w := range []*wal.Wal{w, open(t, d.Copy())} {
		want := want
		for range 2 {
			each := w.All()
			clear(w.Snapshot())
			for _, b := range each {
				clear(b)
				for i := range b[:cap(b)] {
					b[:cap(b)][i] = 7
				}
			}
			for _, b := range each {
				if bytes.Contains(b, []byte{0}) || bytes.Contains(b, []byte{7, 7}) {
					t.Error("what is told is shared with what was told")
				}
			}
			wantTold(t, "what is told is changed", tell(t, w), want)
		}
		wantErr(t, "Append", w.Append([]byte("x")), api.OK)
		want.later, want.left = append(want.later, "x"), want.left-1
		wantTold(t, "Append", tell(t, w), want)
	}
}
