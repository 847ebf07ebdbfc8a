package octet_test

import (
	"bytes"
	"cmp"
	"math"
	"testing"

	"shipwright/api"
	"shipwright/octet"
)

// put is one of the three Put calls, for numbers of that many bytes.
type put struct {
	name string
	size int
	call func(b []byte, x uint64) []byte
}

func puts() []put {
	return []put{
		{"Put16", 2, func(b []byte, x uint64) []byte { return octet.Put16(b, uint16(x)) }},
		{"Put32", 4, func(b []byte, x uint64) []byte { return octet.Put32(b, uint32(x)) }},
		{"Put64", 8, octet.Put64},
	}
}

// take is one of a Reader's calls for a number, of that many bytes.
type take struct {
	name string
	size int
	call func(r *octet.Reader) uint64
}

func takes() []take {
	return []take{
		{"U8", 1, func(r *octet.Reader) uint64 { return uint64(r.U8()) }},
		{"U16", 2, func(r *octet.Reader) uint64 { return uint64(r.U16()) }},
		{"U32", 4, func(r *octet.Reader) uint64 { return uint64(r.U32()) }},
		{"U64", 8, (*octet.Reader).U64},
	}
}

func wantBytes(t *testing.T, what string, got, want []byte) {
	t.Helper()
	if !bytes.Equal(got, want) {
		t.Errorf("%s: % x, want % x", what, got, want)
	}
}

func wantReader(t *testing.T, what string, r *octet.Reader, left int, err api.Errno) {
	t.Helper()
	if r.Left() != left || r.Err() != err {
		t.Errorf("%s: %d left, error %d; want %d left, error %d", what, r.Left(), r.Err(), left, err)
	}
}

// P1.1: the highest byte stands first, behind the bytes of b.
func TestPutLaysHighestFirst(t *testing.T) {
	wantBytes(t, "Put16 behind 07", octet.Put16([]byte{7}, 258), []byte{7, 1, 2})
	wantBytes(t, "Put32 behind none", octet.Put32(nil, 1), []byte{0, 0, 0, 1})
	wantBytes(t, "Put64 behind none", octet.Put64(nil, 256), []byte{0, 0, 0, 0, 0, 0, 1, 0})
	wantBytes(t, "Put16", octet.Put16([]byte{9, 8, 7}, 0xa1b2), []byte{9, 8, 7, 0xa1, 0xb2})
	wantBytes(t, "Put32", octet.Put32([]byte{9}, 0xa1b2c3d4), []byte{9, 0xa1, 0xb2, 0xc3, 0xd4})
	wantBytes(t, "Put64", octet.Put64([]byte{9}, 0xa1b2c3d4e5f60718), []byte{9, 0xa1, 0xb2, 0xc3, 0xd4, 0xe5, 0xf6, 7, 0x18})
}

// P1.1: the least and the greatest number, behind a nil list and an empty one.
func TestPutAtTheEdges(t *testing.T) {
	for _, p := range puts() {
		for _, b := range [][]byte{nil, {}} {
			wantBytes(t, p.name+" of 0", p.call(b, 0), make([]byte, p.size))
			wantBytes(t, p.name+" of the greatest", p.call(b, math.MaxUint64), bytes.Repeat([]byte{255}, p.size))
		}
	}
}

// P1.1, R3: b stays as it is, and so does the room behind its end.
func TestPutLeavesWhatIsHandedIn(t *testing.T) {
	for _, p := range puts() {
		room := bytes.Repeat([]byte{0xee}, 32)
		got := p.call(room[:3], 0x0102030405060708)
		wantBytes(t, p.name+": b and its room", room, bytes.Repeat([]byte{0xee}, 32))
		clear(got)
		wantBytes(t, p.name+": b behind a change of the answer", room, bytes.Repeat([]byte{0xee}, 32))
	}
}

// P1.1, R3: the answer is new memory, and two answers share none.
func TestPutAnswersNewMemory(t *testing.T) {
	for _, p := range puts() {
		b := append(make([]byte, 0, 32), 1, 2, 3)
		one, two := p.call(b, 0), p.call(b, math.MaxUint64)
		clear(b)
		wantBytes(t, p.name+": the first answer", one, append([]byte{1, 2, 3}, make([]byte, p.size)...))
		clear(one[:cap(one)])
		wantBytes(t, p.name+": the second answer", two, append([]byte{1, 2, 3}, bytes.Repeat([]byte{255}, p.size)...))
	}
}

// P1.2: the same bytes, and as many.
func TestEqual(t *testing.T) {
	cases := []struct {
		a, b []byte
		want bool
	}{
		{nil, nil, true},
		{nil, []byte{}, true},
		{[]byte{}, nil, true},
		{[]byte{1, 2}, []byte{1, 2}, true},
		{[]byte{1}, []byte{1, 0}, false},
		{[]byte{1, 0}, []byte{1}, false},
		{nil, []byte{0}, false},
		{[]byte{0}, nil, false},
		{[]byte{1, 2}, []byte{2, 1}, false},
		{[]byte{1, 2, 3}, []byte{0, 2, 3}, false},
		{[]byte{1, 2, 3}, []byte{1, 0, 3}, false},
		{[]byte{1, 2, 3}, []byte{1, 2, 0}, false},
		{[]byte{1, 2}, []byte{2, 2}, false},
		{[]byte{0}, []byte{0x80}, false},
	}
	for _, c := range cases {
		if got := octet.Equal(c.a, c.b); got != c.want {
			t.Errorf("Equal(% x, % x): %v", c.a, c.b, got)
		}
	}
}

// P1.2: one bit that differs is enough; two that differ do not make up for each other.
func TestEqualOfOneBit(t *testing.T) {
	for at := range 5 {
		for bit := range 8 {
			a, b := []byte{1, 2, 3, 4, 5}, []byte{1, 2, 3, 4, 5}
			b[at] ^= 1 << bit
			if octet.Equal(a, b) || octet.Equal(b, a) {
				t.Errorf("bit %d of byte %d is not seen", bit, at)
			}
			b[(at+1)%5] ^= 1 << bit
			if octet.Equal(a, b) {
				t.Errorf("bit %d of byte %d and of the next one are not seen", bit, at)
			}
		}
	}
}

// P1.2: all are 0, of no bytes too.
func TestZero(t *testing.T) {
	for _, b := range [][]byte{nil, {}, {0}, {0, 0}, make([]byte, 1000)} {
		if !octet.Zero(b) {
			t.Errorf("Zero of %d bytes that are 0: false", len(b))
		}
	}
	for at := range 5 {
		for bit := range 8 {
			b := make([]byte, 5)
			b[at] = 1 << bit
			if octet.Zero(b) {
				t.Errorf("Zero(% x): true", b)
			}
		}
	}
	if octet.Zero([]byte{255, 1}) || octet.Zero([]byte{128, 128}) {
		t.Error("bytes that come to 0 as a sum are not all 0")
	}
}

// P1.2, R3: the bytes stay, and what stands behind the end is not looked at.
func TestEqualAndZeroLeaveWhatIsHandedIn(t *testing.T) {
	a, b := []byte{0, 0, 1, 2}, []byte{0, 0, 3, 4}
	if !octet.Equal(a[:2], b[:2]) || !octet.Zero(a[:2]) {
		t.Error("the room behind a list's end counts")
	}
	wantBytes(t, "a", a, []byte{0, 0, 1, 2})
	wantBytes(t, "b", b, []byte{0, 0, 3, 4})
}

// P1.3: a new Reader stands ahead of the first byte, without an error.
func TestReadStandsAhead(t *testing.T) {
	wantReader(t, "Read of none", octet.Read(nil), 0, api.OK)
	wantReader(t, "Read of an empty list", octet.Read([]byte{}), 0, api.OK)
	r := octet.Read([]byte{1, 2, 5})
	wantReader(t, "Read of three", r, 3, api.OK)
	if x := r.U8(); x != 1 {
		t.Errorf("the first byte: %d", x)
	}
}

// P1.3: the chapter's example.
func TestReaderOfTheExample(t *testing.T) {
	r := octet.Read([]byte{1, 2, 5})
	if x := r.U16(); x != 258 {
		t.Errorf("U16: %d", x)
	}
	wantReader(t, "behind U16", r, 1, api.OK)
	if x := r.U16(); x != 0 {
		t.Errorf("U16 with one byte left: %d", x)
	}
	wantReader(t, "behind U16 with one byte left", r, 1, api.ErrShort)
	wantBytes(t, "Raw(1) behind an error", r.Raw(1), nil)
	wantReader(t, "behind Raw(1)", r, 1, api.ErrShort)
}

// P1.3: numbers and rows of bytes come one behind another, the highest byte first.
func TestReaderGoesOn(t *testing.T) {
	list := []byte{0xf1, 0xa1, 0xb2, 7, 8, 9, 0xa1, 0xb2, 0xc3, 0xd4, 0xa1, 0xb2, 0xc3, 0xd4, 0xe5, 0xf6, 0x07, 0x18, 6}
	r := octet.Read(list)
	if x := r.U8(); x != 0xf1 {
		t.Errorf("U8: %x", x)
	}
	if x := r.U16(); x != 0xa1b2 {
		t.Errorf("U16: %x", x)
	}
	wantBytes(t, "Raw(3)", r.Raw(3), []byte{7, 8, 9})
	wantReader(t, "behind Raw(3)", r, 13, api.OK)
	if x := r.U32(); x != 0xa1b2c3d4 {
		t.Errorf("U32: %x", x)
	}
	if x := r.U64(); x != 0xa1b2c3d4e5f60718 {
		t.Errorf("U64: %x", x)
	}
	wantBytes(t, "Raw(1)", r.Raw(1), []byte{6})
	wantReader(t, "at the end", r, 0, api.OK)
}

// P1.3: with just enough bytes left the number is read; with each smaller count it is ErrShort, and the Reader stays.
func TestReaderWithTooFewBytes(t *testing.T) {
	for _, k := range takes() {
		for left := range k.size {
			list := append([]byte{9}, bytes.Repeat([]byte{255}, left)...)
			r := octet.Read(list)
			r.U8()
			if x := k.call(r); x != 0 {
				t.Errorf("%s with %d left: %d", k.name, left, x)
			}
			wantReader(t, k.name, r, left, api.ErrShort)
		}
		r := octet.Read(bytes.Repeat([]byte{255}, k.size))
		if x := k.call(r); x != math.MaxUint64>>(64-8*k.size) {
			t.Errorf("%s with just enough: %x", k.name, x)
		}
		wantReader(t, k.name, r, 0, api.OK)
	}
}

// P1.3: Raw of all that is left, of one more, and of numbers that are far too great.
func TestRawAtTheEnd(t *testing.T) {
	r := octet.Read([]byte{1, 2, 3})
	r.U8()
	wantBytes(t, "Raw of all that is left", r.Raw(2), []byte{2, 3})
	wantReader(t, "behind it", r, 0, api.OK)
	for _, n := range []int{3, 4, 1 << 20, math.MaxInt - 1, math.MaxInt} {
		r := octet.Read([]byte{1, 2, 3})
		r.U8()
		wantBytes(t, "Raw of too many", r.Raw(n), nil)
		wantReader(t, "behind it", r, 2, api.ErrShort)
	}
}

// P1.3: Raw(0) is nothing, and no error, at the end neither.
func TestRawOfNone(t *testing.T) {
	for _, list := range [][]byte{nil, {1, 2}} {
		r := octet.Read(list)
		wantBytes(t, "Raw(0)", r.Raw(0), nil)
		wantReader(t, "behind Raw(0)", r, len(list), api.OK)
		r.Raw(len(list))
		wantBytes(t, "Raw(0) at the end", r.Raw(0), nil)
		wantReader(t, "behind Raw(0) at the end", r, 0, api.OK)
	}
}

// P1.3: Raw of a number below 0 is ErrArg, and the Reader stays.
func TestRawBelowNone(t *testing.T) {
	for _, n := range []int{-1, -2, math.MinInt} {
		for _, list := range [][]byte{nil, {1, 2, 3}} {
			r := octet.Read(list)
			if len(list) > 0 {
				r.U8()
			}
			left := r.Left()
			wantBytes(t, "Raw below 0", r.Raw(n), nil)
			wantReader(t, "behind Raw below 0", r, left, api.ErrArg)
		}
	}
}

// P1.3: an error stays the first one, nothing is read any more, and the Reader stays where it stood.
func TestReaderKeepsItsFirstError(t *testing.T) {
	short := func() *octet.Reader {
		r := octet.Read([]byte{1, 2, 3, 4, 5, 6, 7, 8, 9})
		r.U8()
		r.Raw(9)
		return r
	}
	wrong := func() *octet.Reader {
		r := octet.Read([]byte{1, 2, 3, 4, 5, 6, 7, 8, 9})
		r.U8()
		r.Raw(-1)
		return r
	}
	for err, begin := range map[api.Errno]func() *octet.Reader{api.ErrShort: short, api.ErrArg: wrong} {
		r := begin()
		for _, k := range takes() {
			if x := k.call(r); x != 0 {
				t.Errorf("%s behind error %d: %d", k.name, err, x)
			}
			wantReader(t, k.name, r, 8, err)
		}
		for _, n := range []int{0, 1, 8, 9, math.MaxInt, -1, math.MinInt} {
			wantBytes(t, "Raw behind an error", r.Raw(n), nil)
			wantReader(t, "behind Raw", r, 8, err)
		}
	}
}

// P1.3, R3: the Reader keeps nothing of what is handed in, and changes nothing of it.
func TestReadKeepsNothing(t *testing.T) {
	room := []byte{1, 2, 3, 4, 5, 6}
	r := octet.Read(room[:4])
	wantReader(t, "Read of a part", r, 4, api.OK)
	clear(room)
	wantBytes(t, "Raw behind a change", r.Raw(2), []byte{1, 2})
	if x := r.U16(); x != 0x0304 {
		t.Errorf("U16 behind a change: %x", x)
	}
	r.U8()
	wantReader(t, "at the end of the part", r, 0, api.ErrShort)
	wantBytes(t, "what was handed in", room, make([]byte, 6))
}

// P1.3, R3: what Raw answers is new memory: neither what was handed in nor what is read next hangs on it.
func TestRawAnswersNewMemory(t *testing.T) {
	list := []byte{1, 2, 3, 4}
	r := octet.Read(list)
	one := r.Raw(2)
	one[0] = 99
	_ = append(one, 98, 97)
	two := r.Raw(2)
	wantBytes(t, "the next Raw", two, []byte{3, 4})
	wantBytes(t, "what was handed in", list, []byte{1, 2, 3, 4})
	clear(two)
	wantBytes(t, "the first answer", one, []byte{99, 2})
}

// P1.3, R5: two Readers of one list go through it each for itself.
func TestReadersAreApart(t *testing.T) {
	list := []byte{1, 2}
	a, b := octet.Read(list), octet.Read(list)
	a.U16()
	a.U8()
	wantReader(t, "the one", a, 0, api.ErrShort)
	wantReader(t, "the other one", b, 2, api.OK)
	if x := b.U16(); x != 0x0102 {
		t.Errorf("the other one reads %x", x)
	}
}

// P1.3, R4: of a nil Reader all is 0 or nothing, and the error is ErrNil.
func TestReaderThatIsNil(t *testing.T) {
	var r *octet.Reader
	for _, k := range takes() {
		if x := k.call(r); x != 0 {
			t.Errorf("%s of a nil Reader: %d", k.name, x)
		}
	}
	for _, n := range []int{0, 1, -1, math.MaxInt, math.MinInt} {
		wantBytes(t, "Raw of a nil Reader", r.Raw(n), nil)
	}
	wantReader(t, "a nil Reader", r, 0, api.ErrNil)
}

// numbers tells powers of two, their neighbours, and some between: those at which a byte is carried over.
func numbers() []uint64 {
	list := []uint64{0, math.MaxUint64, 0x0123456789abcdef, 0xfedcba9876543210, 0x00ff00ff00ff00ff}
	for i := range 64 {
		x := uint64(1) << i
		list = append(list, x-1, x, x+1, x*3)
	}
	return list
}

// P1.4: what was put is read as the same, and nothing is left.
func TestPutThenRead(t *testing.T) {
	for _, x := range numbers() {
		b := octet.Put64(octet.Put32(octet.Put16(nil, uint16(x)), uint32(x)), x)
		r := octet.Read(b)
		if a, b, c := r.U16(), r.U32(), r.U64(); a != uint16(x) || b != uint32(x) || c != x {
			t.Errorf("%x is read as %x, %x, %x", x, a, b, c)
		}
		wantReader(t, "behind all", r, 0, api.OK)
	}
	for x := range 1 << 16 {
		r := octet.Read(octet.Put16(nil, uint16(x)))
		if got := r.U16(); int(got) != x || r.Left() != 0 || r.Err() != api.OK {
			t.Fatalf("%x is read as %x, %d left, error %d", x, got, r.Left(), r.Err())
		}
	}
}

// P1.4: the bytes ahead are read as the same, too.
func TestPutBehindBytesThenRead(t *testing.T) {
	for _, p := range puts() {
		r := octet.Read(p.call([]byte{3, 1, 2}, 0x0102030405060708))
		wantBytes(t, p.name+": the bytes ahead", r.Raw(3), []byte{3, 1, 2})
		wantBytes(t, p.name+": those of the number", r.Raw(p.size), []byte{1, 2, 3, 4, 5, 6, 7, 8}[8-p.size:])
		wantReader(t, p.name, r, 0, api.OK)
	}
}

// P1.4: the bytes of a greater number are greater, byte by byte.
func TestBytesRiseWithNumbers(t *testing.T) {
	for _, p := range puts() {
		cut := uint64(math.MaxUint64) >> (64 - 8*p.size)
		for _, x := range numbers() {
			for _, y := range numbers() {
				want := cmp.Compare(x&cut, y&cut)
				if got := bytes.Compare(p.call(nil, x&cut), p.call(nil, y&cut)); got != want {
					t.Errorf("%s: %x against %x: %d, want %d", p.name, x&cut, y&cut, got, want)
				}
			}
		}
	}
}
