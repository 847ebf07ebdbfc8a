package sha

import (
	"math/bits"
	"testing"
)

// Chapter 3, 'Words': turned right by n, the lowest n bits go to the top, in numbers of each width.
func TestTurn(t *testing.T) {
	const x = 0x0123456789abcdef
	for n := range 9 {
		if got, want := turn(n, uint8(x&0xff)), bits.RotateLeft8(x&0xff, -n); got != want {
			t.Errorf("8 bits turned by %d: %x, want %x", n, got, want)
		}
	}
	for n := range 17 {
		if got, want := turn(n, uint16(x&0xffff)), bits.RotateLeft16(x&0xffff, -n); got != want {
			t.Errorf("16 bits turned by %d: %x, want %x", n, got, want)
		}
	}
	for n := range 33 {
		if got, want := turn(n, uint32(x&0xffffffff)), bits.RotateLeft32(x&0xffffffff, -n); got != want {
			t.Errorf("32 bits turned by %d: %x, want %x", n, got, want)
		}
	}
	for n := range 65 {
		if got, want := turn(n, uint64(x)), bits.RotateLeft64(x, -n); got != want {
			t.Errorf("64 bits turned by %d: %x, want %x", n, got, want)
		}
	}
}
