package wal_test

import (
	"fmt"
	"math/rand"
	"reflect"
	"slices"
	"testing"

	"shipwright/api"
	"shipwright/disk"
	"shipwright/wal"
)

// step is an Append or a Checkpoint.
type step struct {
	checkpoint bool
	bytes      []byte
}

func (s step) String() string {
	if s.checkpoint {
		return fmt.Sprintf("Checkpoint of %d bytes", len(s.bytes))
	}
	return fmt.Sprintf("Append of %d bytes", len(s.bytes))
}

func (s step) call(w *wal.Wal) api.Errno {
	if s.checkpoint {
		return w.Checkpoint(s.bytes)
	}
	return w.Append(s.bytes)
}

// done is what is told behind a step that was done whole.
func (s step) done(was told, area int) told {
	fills := (len(s.bytes) + 4 + 47) / 48
	if s.checkpoint {
		return told{turn: was.turn + 1, left: area - fills, snapshot: string(s.bytes)}
	}
	was.left -= fills
	was.later = append(slices.Clone(was.later), string(s.bytes))
	return was
}

// choices are all the lists that Crash can be handed for n pending writes.
func choices(n int) [][]bool {
	list := [][]bool{nil}
	for range n {
		var longer [][]bool
		for _, keep := range list {
			longer = append(longer, append(slices.Clone(keep), false), append(slices.Clone(keep), true))
		}
		list = longer
	}
	return list
}

// crashed tells a copy of the disk for each choice of what survives.
func crashed(t *testing.T, d *disk.Disk) func(yield func(*disk.Disk) bool) {
	return func(yield func(*disk.Disk) bool) {
		for _, keep := range choices(len(d.Pending())) {
			c := d.Copy()
			wantErr(t, "Crash", c.Crash(keep), api.OK)
			if !yield(c) {
				return
			}
		}
	}
}

// wantSettled asks Open for the same again, and that it writes nothing.
func wantSettled(t *testing.T, what string, d *disk.Disk, area int, want told) {
	t.Helper()
	was := d.Copy()
	wantTold(t, what+", Open again", tell(t, open(t, d)), want)
	do(t, was, slices.Concat(reads(0, 2), reads(2+area*int(want.turn%2), area)))
	wantSame(t, what+", Open again", d, was)
}

// wantFound asks Open for one of the two; and for that same one, wherever the power goes in an Open ahead of it, whatever survives.
func wantFound(t *testing.T, what string, d *disk.Disk, area int, old, new told) {
	t.Helper()
	whole := d.Copy()
	found := tell(t, open(t, whole))
	if !reflect.DeepEqual(found, old) && !reflect.DeepEqual(found, new) {
		t.Errorf("%s: Open found %s; want %s, or %s", what, found, old, new)
	}
	wantSettled(t, what, whole, area, found)
	for armed := 0; ; armed++ {
		c := d.Copy()
		c.Arm(armed)
		if _, err := wal.Open(c); err == api.OK {
			return
		}
		for left := range crashed(t, c) {
			name := fmt.Sprintf("%s, Open cut off at %d", what, armed)
			wantTold(t, name, tell(t, open(t, left)), found)
			wantSettled(t, name, left, area, found)
		}
	}
}

// P4.5: a log with something behind it, each step, the power going at each write of it, each choice of what survives.
func TestPowerAtEachWrite(t *testing.T) {
	start, old := behind(t)
	for _, s := range []step{
		{false, nil}, {false, some(44, 1)}, {false, some(45, 2)}, {false, some(140, 3)}, {false, some(188, 4)},
		{true, nil}, {true, some(45, 5)}, {true, some(188, 6)}, {true, some(6*48-4, 7)},
	} {
		for armed, done := 0, false; !done; armed++ {
			d := start.Copy()
			w := open(t, d)
			d.Arm(armed)
			err := s.call(w)
			done = err == api.OK
			what := fmt.Sprintf("%s, armed with %d", s, armed)
			wantErr(t, what, err, pick(done, api.OK, api.ErrDead))
			last, whole := old, s.done(old, 6)
			if done {
				last = whole
			}
			for left := range crashed(t, d) {
				wantFound(t, what, left, 6, last, whole)
			}
		}
	}
}

// P4.5: a step that failed may be there or not; behind a crash Open finds one of the two.
func TestFailureAndThenACrash(t *testing.T) {
	start, old := behind(t)
	for _, s := range []step{{false, some(140, 1)}, {true, some(140, 2)}} {
		for n, done := 0, false; !done; n++ {
			d := start.Copy()
			w := open(t, d)
			d.Fail(n)
			err := s.call(w)
			d.Fail(-1)
			done = err == api.OK
			what := fmt.Sprintf("%s, failing at %d", s, n)
			wantErr(t, what, err, pick(done, api.OK, api.ErrIo))
			if w.Broken() == done {
				t.Errorf("%s: Broken %v", what, w.Broken())
			}
			last, whole := old, s.done(old, 6)
			if done {
				last = whole
			}
			for left := range crashed(t, d) {
				wantFound(t, what, left, 6, last, whole)
			}
			// Without a crash what was written is there: all of it, if just the last sync has failed.
			found := tell(t, open(t, d))
			if !reflect.DeepEqual(found, last) && !reflect.DeepEqual(found, whole) {
				t.Errorf("%s: Open found %s; want %s, or %s", what, found, last, whole)
			}
			wantSettled(t, what, d, 6, found)
		}
	}
}

// P4.5: parts of two transactions of one number, each of them cut off, do not come to stand for one.
func TestPartsOfTwoCutOff(t *testing.T) {
	d, w := format(t, 14, 6)
	for _, keep := range [][]bool{{false, true, true}, {true}, {true, false, true}, {false, true}} {
		d.Arm(len(keep))
		wantErr(t, "Append", w.Append(some(140, byte(len(keep)))), api.ErrDead)
		wantErr(t, "Crash", d.Crash(keep), api.OK)
		w = open(t, d)
		wantTold(t, "Open", tell(t, w), told{left: 5})
	}
}

// P4.5: what an older turn left in an area does not come to stand behind a snapshot of a later one, in whatever order it was.
func TestWhatOlderTurnsLeft(t *testing.T) {
	d, w := format(t, 14, 6)
	for turn := range uint32(6) {
		for n := range 5 {
			wantErr(t, "Append", w.Append(some(3, byte(n))), api.OK)
		}
		wantErr(t, "Checkpoint", w.Checkpoint([]byte{byte(turn)}), api.OK)
		want := told{turn: turn + 1, left: 5, snapshot: string([]byte{byte(turn)})}
		wantTold(t, "Checkpoint", tell(t, w), want)
		wantFound(t, "Checkpoint", d.Copy(), 6, want, want)
	}
}

// longRun does steps at random, with the power going in some of them and in Opens behind them, and holds what is found against what was told.
func longRun(t *testing.T, random *rand.Rand, area, steps int) {
	t.Helper()
	d, w := format(t, 2+2*area+random.Intn(3), area)
	last := tell(t, w)
	for range steps {
		s := step{checkpoint: random.Intn(6) == 0, bytes: some(random.Intn(200), byte(random.Int()))}
		armed := random.Intn(3) == 0
		if armed {
			d.Arm(random.Intn(7))
		}
		err := s.call(w)
		whole := s.done(last, area)
		switch {
		case whole.left < 0:
			wantErr(t, s.String(), err, api.ErrFull)
		case err == api.OK:
			last = whole
		default:
			wantErr(t, s.String(), err, api.ErrDead)
		}
		if w.Broken() != (err == api.ErrDead) {
			t.Errorf("%s: error %d, Broken %v", s, err, w.Broken())
		}
		if err == api.ErrDead {
			wantTold(t, "broken", tell(t, w), last)
			crashAtRandom(t, random, d)
			w = found(t, random, d, last, whole)
			last = tell(t, w)
		}
		d.Arm(-1)
		wantTold(t, s.String(), tell(t, w), last)
	}
	wantTold(t, "at the end", tell(t, open(t, d)), last)
}

func crashAtRandom(t *testing.T, random *rand.Rand, d *disk.Disk) {
	t.Helper()
	keep := make([]bool, len(d.Pending()))
	for i := range keep {
		keep[i] = random.Intn(2) == 0
	}
	wantErr(t, "Crash", d.Crash(keep), api.OK)
}

// found opens the log, with the power going in some Opens ahead, and asks that each finds the same, and one of the two.
func found(t *testing.T, random *rand.Rand, d *disk.Disk, old, new told) *wal.Wal {
	t.Helper()
	want := tell(t, open(t, d.Copy()))
	if !reflect.DeepEqual(want, old) && !reflect.DeepEqual(want, new) {
		t.Fatalf("Open found %s; want %s, or %s", want, old, new)
	}
	for {
		if random.Intn(2) == 0 {
			d.Arm(random.Intn(4))
		}
		w, err := wal.Open(d)
		if err == api.OK {
			d.Arm(-1)
			wantTold(t, "Open", tell(t, w), want)
			return w
		}
		wantErr(t, "Open", err, api.ErrDead)
		crashAtRandom(t, random, d)
	}
}

// P4.5: long rows of steps and crashes.
func TestLongRuns(t *testing.T) {
	for seed := range int64(60) {
		random := rand.New(rand.NewSource(seed))
		longRun(t, random, 4+random.Intn(7), 150)
	}
}
