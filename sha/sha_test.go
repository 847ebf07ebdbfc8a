package sha_test

import (
	"bytes"
	"crypto/sha256"
	"encoding"
	"encoding/binary"
	"encoding/hex"
	"math"
	"math/big"
	"math/rand"
	"slices"
	"strings"
	"testing"

	"shipwright/api"
	"shipwright/sha"
)

const (
	abc  = "ba7816bf8f01cfea414140de5dae2223b00361a396177a9cb410ff61f20015ad"
	none = "e3b0c44298fc1c149afbf4c8996fb92427ae41e4649b934ca495991b7852b855"
)

// edges are lengths around those at which the padding takes another block, and some that are long.
func edges() []int {
	list := []int{1000, 4095, 4096, 65536, 1<<20 + 17}
	for n := range 260 {
		list = append(list, n)
	}
	return list
}

// row is n bytes that all are unlike their neighbours.
func row(n int) []byte {
	b := make([]byte, n)
	for i := range b {
		b[i] = byte(i*7 + i>>8 + 1)
	}
	return b
}

// roomy is b with room behind its end, filled with 55 (to the base 16); spoilt tells whether that room, or b, was changed.
func roomy(b []byte) (list []byte, spoilt func() bool) {
	whole := append(bytes.Clone(b), bytes.Repeat([]byte{0x55}, 200)...)
	was := bytes.Clone(whole)
	return whole[:len(b)], func() bool { return !bytes.Equal(whole, was) }
}

// P3.1: the chapter's examples, and those that FIPS 180-4 is shown by.
func TestSumExamples(t *testing.T) {
	for _, q := range [][2]string{
		{"abc", abc},
		{"", none},
		{"abcdbcdecdefdefgefghfghighijhijkijkljklmklmnlmnomnopnopq", "248d6a61d20638b8e5c026930c3e6039a33ce45964ff2167f6ecedd419db06c1"},
		{strings.Repeat("a", 1000000), "cdc76e5c9914fb9281a1c7e284d73e67f1809a48a497200e046d39ccc7112cd0"},
	} {
		if got := sha.Text(sha.Sum([]byte(q[0]))); got != q[1] {
			t.Errorf("Sum of %.20q: %s, want %s", q[0], got, q[1])
		}
	}
	if got := sha.Sum(nil); sha.Text(got) != none {
		t.Errorf("Sum of nil: %x", got)
	}
}

// P3.1: bytes of every length around the edges of the padding, and long ones, have the digest of SHA-256.
func TestSumOfEveryLength(t *testing.T) {
	for _, n := range edges() {
		b := row(n)
		if got, want := sha.Sum(b), api.Id(sha256.Sum256(b)); got != want {
			t.Errorf("Sum of %d bytes: %x, want %x", n, got, want)
		}
		if n < 200 {
			b = bytes.Repeat([]byte{0xff}, n)
			if got, want := sha.Sum(b), api.Id(sha256.Sum256(b)); got != want {
				t.Errorf("Sum of %d bytes ff: %x, want %x", n, got, want)
			}
		}
	}
}

// P3.1: a change of any one bit changes the digest, to that of the changed bytes.
func TestSumHangsOnEveryBit(t *testing.T) {
	b := row(130)
	for i := range 8 * len(b) {
		b[i/8] ^= 1 << (i % 8)
		if got, want := sha.Sum(b), api.Id(sha256.Sum256(b)); got != want {
			t.Errorf("bit %d changed: %x, want %x", i, got, want)
		}
		b[i/8] ^= 1 << (i % 8)
	}
}

// primes are the first n of them.
func primes(n int) []int64 {
	var list []int64
	for p := int64(2); len(list) < n; p++ {
		if !slices.ContainsFunc(list, func(q int64) bool { return p%q == 0 }) {
			list = append(list, p)
		}
	}
	return list
}

// rootBits is the whole part of 2^32 times the root of p of that degree, modulo 2^32.
func rootBits(p int64, degree int64) uint32 {
	power := func(x int64) *big.Int { return new(big.Int).Exp(big.NewInt(x), big.NewInt(degree), nil) }
	top := new(big.Int).Mul(big.NewInt(p), new(big.Int).Lsh(big.NewInt(1), uint(32*degree)))
	low, high := int64(0), int64(math.MaxInt64>>16)
	for high-low > 1 {
		mid := low + (high-low)/2
		if power(mid).Cmp(top) <= 0 {
			low = mid
		} else {
			high = mid
		}
	}
	return uint32(low)
}

// P3.2: every constant comes from the cube root of its prime, every number of the start from the square root.
func TestConstantsAndStartAreRoots(t *testing.T) {
	k, h := sha.Constants(), sha.Start()
	for i, p := range primes(64) {
		if want := rootBits(p, 3); k[i] != want {
			t.Errorf("K_%d: %08x, want %08x", i, k[i], want)
		}
		if i < len(h) && h[i] != rootBits(p, 2) {
			t.Errorf("H_%d: %08x, want %08x", i, h[i], rootBits(p, 2))
		}
	}
	if k[0] != 0x428A2F98 || h[0] != 0x6A09E667 {
		t.Errorf("K_0 %08X, H_0 %08X", k[0], h[0])
	}
}

// P3.2, R3: what Constants and Start answer may be changed; the next answer, and the digest, are as before.
func TestConstantsAndStartAreNewMemory(t *testing.T) {
	k, h := sha.Constants(), sha.Start()
	k[0], h[0] = 1, 1
	if sha.Constants()[0] == 1 || sha.Start()[0] == 1 || sha.Text(sha.Sum(nil)) != none {
		t.Error("a change of an answer is to be seen in a later one")
	}
}

// libraryBlock is what the library's SHA-256 makes of h behind one block: its state is laid from h, and read again.
func libraryBlock(t *testing.T, h [8]uint32, b [64]byte) [8]uint32 {
	t.Helper()
	d := sha256.New()
	state, err := d.(encoding.BinaryMarshaler).MarshalBinary()
	if err != nil {
		t.Fatal(err)
	}
	for i, x := range h {
		binary.BigEndian.PutUint32(state[4+4*i:], x)
	}
	if err := d.(encoding.BinaryUnmarshaler).UnmarshalBinary(state); err != nil {
		t.Fatal(err)
	}
	d.Write(b[:])
	if state, err = d.(encoding.BinaryMarshaler).MarshalBinary(); err != nil {
		t.Fatal(err)
	}
	for i := range h {
		h[i] = binary.BigEndian.Uint32(state[4+4*i:])
	}
	return h
}

// P3.2: Block of numbers and blocks of any bits is one block of SHA-256.
func TestBlockOfAnyBits(t *testing.T) {
	var ones [64]byte
	for i := range ones {
		ones[i] = 0xff
	}
	full := [8]uint32{}
	for i := range full {
		full[i] = math.MaxUint32
	}
	check := func(h [8]uint32, b [64]byte) {
		t.Helper()
		if got, want := sha.Block(h, b), libraryBlock(t, h, b); got != want {
			t.Errorf("Block(%08x, %x): %08x, want %08x", h, b, got, want)
		}
	}
	for _, h := range [][8]uint32{{}, full, sha.Start()} {
		for _, b := range [][64]byte{{}, ones, [64]byte(row(64))} {
			check(h, b)
		}
	}
	for bit := range 512 {
		var b [64]byte
		b[bit/8] = 1 << (bit % 8)
		check([8]uint32{}, b)
	}
	for bit := range 256 {
		var h [8]uint32
		h[bit/32] = 1 << (bit % 32)
		check(h, [64]byte{})
	}
	random := rand.New(rand.NewSource(3))
	for range 2000 {
		var h [8]uint32
		var b [64]byte
		for i := range h {
			h[i] = random.Uint32()
		}
		random.Read(b[:])
		check(h, b)
	}
}

// P3.2: padded are the bytes, the byte 80, as few noughts as make the length 56 modulo 64, and how many bits the bytes have.
func TestPad(t *testing.T) {
	for _, n := range edges() {
		want := append(row(n), 0x80)
		for len(want)%64 != 56 {
			want = append(want, 0)
		}
		want = binary.BigEndian.AppendUint64(want, uint64(n)*8)
		if got := sha.Pad(row(n)); !bytes.Equal(got, want) {
			t.Errorf("Pad of %d bytes: %d bytes, want %d: they end in % x, want % x", n, len(got), len(want), got[max(0, len(got)-72):], want[max(0, len(want)-72):])
		}
	}
	if got := sha.Pad(nil); len(got) != 64 || got[0] != 0x80 {
		t.Errorf("Pad of nil: % x", got)
	}
}

// P3.2: how many bytes are padded to how many, at each edge.
func TestPadLengths(t *testing.T) {
	for _, q := range [][2]int{{0, 64}, {55, 64}, {56, 128}, {63, 128}, {64, 128}, {119, 128}, {120, 192}, {128, 192}} {
		if got := len(sha.Pad(row(q[0]))); got != q[1] {
			t.Errorf("Pad of %d bytes: %d bytes, want %d", q[0], got, q[1])
		}
	}
}

// R3: Sum and Pad change neither the bytes nor the room behind their end, and Pad's answer is memory of its own.
func TestBytesAreNotChangedAndNotKept(t *testing.T) {
	for _, n := range []int{0, 1, 55, 56, 63, 64, 119, 120, 128, 1000} {
		b, spoilt := roomy(row(n))
		sha.Sum(b)
		p := sha.Pad(b)
		was := bytes.Clone(p)
		if spoilt() {
			t.Fatalf("%d bytes: they, or the room behind them, were changed", n)
		}
		for i := range b {
			b[i]++
		}
		if !bytes.Equal(p, was) {
			t.Errorf("Pad of %d bytes has changed with what was handed in", n)
		}
		held := bytes.Clone(b[:cap(b)])
		for i := range p {
			p[i] = 0xaa
		}
		if !bytes.Equal(b[:cap(b)], held) || !bytes.Equal(sha.Pad(row(n)), was) {
			t.Errorf("%d bytes: a change of Pad's answer is to be seen elsewhere", n)
		}
	}
}

// R3: Block's numbers and bytes stay the caller's.
func TestBlockChangesNothing(t *testing.T) {
	h, b := sha.Start(), [64]byte(row(64))
	sha.Block(h, b)
	if h != sha.Start() || b != [64]byte(row(64)) {
		t.Error("Block changed what it was handed")
	}
}

// P3.3: two digits for each byte, 0 to 9 and a to f; and Parse takes them again.
func TestTextAndParseOfEveryByte(t *testing.T) {
	for x := range 256 {
		for place := range 32 {
			var id api.Id
			id[place] = byte(x)
			want := hex.EncodeToString(id[:])
			if got := sha.Text(id); got != want {
				t.Fatalf("Text(%x): %s", id, got)
			}
			if got, err := sha.Parse(want); err != api.OK || got != id {
				t.Fatalf("Parse(%s): %x, error %d", want, got, err)
			}
		}
	}
	if id, err := sha.Parse(abc); err != api.OK || id != sha.Sum([]byte("abc")) {
		t.Errorf("Parse(%s): %x, error %d", abc, id, err)
	}
}

func wantErrId(t *testing.T, s string) {
	t.Helper()
	if id, err := sha.Parse(s); err != api.ErrId || id != (api.Id{}) {
		t.Errorf("Parse(%q): %x, error %d; want noughts and ErrId", s, id, err)
	}
}

// P3.3: a text that is too short or too long is no digest.
func TestParseOfOtherLengths(t *testing.T) {
	wantErrId(t, "ab")
	for n := range 200 {
		if n != 64 {
			wantErrId(t, strings.Repeat("a", n))
		}
	}
	for _, s := range []string{abc[1:], abc[:63], abc + "0", "0" + abc, " " + abc, abc + "\n", "0x" + abc, abc + abc} {
		wantErrId(t, s)
	}
}

// P3.3: a digit in capitals, a sign that is no digit, or a byte above 127, at any place, is none of the digits.
func TestParseOfOtherSigns(t *testing.T) {
	for x := range 256 {
		if strings.IndexByte("0123456789abcdef", byte(x)) >= 0 {
			continue
		}
		for place := range 64 {
			s := []byte(abc)
			s[place] = byte(x)
			wantErrId(t, string(s))
		}
	}
	wantErrId(t, strings.ToUpper(abc))
	wantErrId(t, strings.Repeat("é", 32))
	wantErrId(t, strings.Repeat("０", 64))
	wantErrId(t, strings.Repeat("\x00", 64))
}

// P3.3: Less is byte by byte, the first byte first, each as a number from 0 to 255.
func TestLess(t *testing.T) {
	id := sha.Sum([]byte("abc"))
	if sha.Less(id, id) || sha.Less(api.Id{}, api.Id{}) {
		t.Error("a digest stands ahead of itself")
	}
	for place := range 32 {
		for _, q := range [][2]byte{{0, 1}, {0, 255}, {127, 128}, {1, 128}, {254, 255}} {
			a, b := id, id
			a[place], b[place] = q[0], q[1]
			if !sha.Less(a, b) || sha.Less(b, a) {
				t.Errorf("byte %d is %d, and %d: the less one is not ahead", place, q[0], q[1])
			}
			if place+1 < len(id) {
				a[place+1], b[place+1] = 255, 0
				if !sha.Less(a, b) || sha.Less(b, a) {
					t.Errorf("byte %d differs: a later one decides", place)
				}
			}
		}
	}
}

// P3.3: of any two digests Less says what their texts' order says.
func TestLessIsTheOrderOfTexts(t *testing.T) {
	var ids []api.Id
	for n := range 60 {
		ids = append(ids, sha.Sum(row(n)))
	}
	for _, a := range ids {
		for _, b := range ids {
			if got, want := sha.Less(a, b), sha.Text(a) < sha.Text(b); got != want {
				t.Errorf("Less(%x, %x): %t", a, b, got)
			}
		}
	}
}

// P3.4: Sum is Block, block by block of Pad, from Start on.
func TestSumIsBlocksOfPad(t *testing.T) {
	for _, n := range edges() {
		h, p := sha.Start(), sha.Pad(row(n))
		if len(p)%64 != 0 {
			t.Fatalf("Pad of %d bytes has %d", n, len(p))
		}
		for at := 0; at < len(p); at += 64 {
			h = sha.Block(h, [64]byte(p[at:]))
		}
		var want api.Id
		for i, x := range h {
			binary.BigEndian.PutUint32(want[4*i:], x)
		}
		if got := sha.Sum(row(n)); got != want {
			t.Errorf("Sum of %d bytes: %x, the blocks come to %x", n, got, want)
		}
	}
}

// P3.4: Parse of Text is the digest, Text of Parse the text.
func TestTextAndParseUndoEachOther(t *testing.T) {
	for n := range 300 {
		id := sha.Sum(row(n))
		s := sha.Text(id)
		again, err := sha.Parse(s)
		if err != api.OK || again != id || sha.Text(again) != s {
			t.Errorf("%s: Parse %x, error %d, Text of it %s", s, again, err, sha.Text(again))
		}
	}
}

// P3.4: Pad has a length that 64 divides, at most 72 bytes more than the bytes, and begins with these.
func TestPadIsShortAndBegins(t *testing.T) {
	for _, n := range edges() {
		b := row(n)
		p := sha.Pad(b)
		if len(p)%64 != 0 || len(p)-n > 72 || !bytes.HasPrefix(p, b) {
			t.Errorf("Pad of %d bytes: %d bytes, which begin with the bytes: %t", n, len(p), bytes.HasPrefix(p, b))
		}
	}
}
