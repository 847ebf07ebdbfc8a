package eval

import (
	"strings"
	"testing"

	"shipwright/api"
)

// P16.1: strings are held against each other byte by byte, bytes above 127 being above all others: no text of a file has such.
func TestHighBytes(t *testing.T) {
	rising := []text{"", "\x00", "a", "a\x00", "a~", "a\x7f", "a\x80", "a\xc3\xa9", "a\xff", "b", "~", "\x7f", "\x80", "\xc3", "\xc3\xa9", "\xe2\x82\xac", "\xff", "\xff\x00"}
	all := operations()
	for i, a := range rising {
		for j, b := range rising {
			for sign, want := range map[string]bool{"<": i < j, "<=": i <= j, ">": i > j, ">=": i >= j, "==": i == j, "!=": i != j} {
				if all[sign](a, b) != truth(want) {
					t.Errorf("%q %s %q: %t", a, sign, b, !want)
				}
			}
		}
	}
}

// printed is how a run ends that prints one string and nothing else, and what it has printed by then.
func printed(s string) (e ending, out string) {
	r := &runner{}
	defer func() {
		e, _ = recover().(ending)
		out = r.out.String()
	}()
	r.print(text(s))
	return
}

// P16.1: with nothing printed ahead MaxOut bytes are printed, and not one more: no string of a run has so many.
func TestFirstLine(t *testing.T) {
	for n := api.MaxOut - 3; n < api.MaxOut+3; n++ {
		s := strings.Repeat("x", n)
		want, line := ending{}, s+"\n"
		if n+1 > api.MaxOut {
			want, line = ending{end: api.EndOut}, ""
		}
		if e, out := printed(s); e != want || out != line {
			t.Errorf("%d bytes: %+v, %d bytes", n, e, len(out))
		}
	}
}
