package lex_test

import (
	"math"
	"math/rand"
	"strings"
	"testing"

	"shipwright/api"
	"shipwright/lex"
)

// P10.3: Word.
func TestWord(t *testing.T) {
	for _, s := range []string{"a", "z", "A", "Z", "_", "__", "a0", "_9", "if", "aB_3", strings.Repeat("a", 23), strings.Repeat("a", 24), "a" + strings.Repeat("0", 23)} {
		if !lex.Word(s) {
			t.Errorf("Word(%q): false", s)
		}
	}
	for _, s := range []string{"", "0", "1a", "9", " ", " a", "a ", "a b", "a\n", "\na", "a.b", "-a", "a-", "+", ";", `"a"`, "a;", "a//", "\u00e9", "a\u00e9", "\u0430", "\uff41", "\x80", "a\xff", "a\x00", "\u0661", "a\u0661", strings.Repeat("a", 25), "a" + strings.Repeat("0", 24), strings.Repeat("a", 1<<16), strings.Repeat("\u00e9", 5)} {
		if lex.Word(s) {
			t.Errorf("Word(%q): true", short(s))
		}
	}
	for n := range 256 {
		c := byte(n)
		s := string([]byte{c})
		if got, want := lex.Word(s), among(c, letters); got != want {
			t.Errorf("Word(%q): %v", s, got)
		}
		for _, ahead := range []string{"a", "_", "Zz", strings.Repeat("b", 23)} {
			if got, want := lex.Word(ahead+s), among(c, letters+digits); got != want {
				t.Errorf("Word(%q): %v", ahead+s, got)
			}
			if got, want := lex.Word(ahead[:1]+s+"c"), among(c, letters+digits); got != want {
				t.Errorf("Word(%q): %v", ahead[:1]+s+"c", got)
			}
		}
	}
}

// checkNumber holds Number of a token against what it has to answer.
func checkNumber(t *testing.T, one api.Token) {
	t.Helper()
	n, err := lex.Number(one)
	if want, wantErr := wantNumber(one); n != want || err != wantErr {
		t.Fatalf("Number(%v): %d, error %d, want %d, %d", one, n, err, want, wantErr)
	}
}

// P10.3: Number.
func TestNumber(t *testing.T) {
	for s, want := range map[string]int64{
		"0": 0, "1": 1, "9": 9, "10": 10, "1234567890": 1234567890, "1000000000000000000": 1e18,
		"9223372036854775799": math.MaxInt64 - 8, "9223372036854775800": math.MaxInt64 - 7, "9223372036854775806": math.MaxInt64 - 1, "9223372036854775807": math.MaxInt64,
	} {
		if n, err := lex.Number(num(s)); n != want || err != api.OK {
			t.Errorf("Number(%s): %d, error %d", s, n, err)
		}
	}
	for _, s := range []string{"", "a", "-1", "+1", " 1", "1 ", "1\n", "1;", "1a", "1_0", "0x1", "00", "01", "007", "1.0", "\u0661", "1\u0661", "/", ":", "\x80", "9223372036854775808", "9223372036854775809", "9223372036854775810", "10000000000000000000", "18446744073709551616", "18446744073709551617", "1" + strings.Repeat("0", 64), "0" + strings.Repeat("0", 5000), strings.Repeat("1", 5000)} {
		if n, err := lex.Number(num(s)); n != 0 || err != api.ErrNumber {
			t.Errorf("Number(%s): %d, error %d", short(s), n, err)
		}
	}
	for _, kind := range []int{math.MinInt, -2, 0, 1, 3, 4, 5, 6, 1<<32 + 2} {
		for _, s := range []string{"", "0", "7", "a", "+", `"1"`, ";"} {
			if n, err := lex.Number(api.Token{Kind: kind, Text: s}); n != 0 || err != api.ErrNumber {
				t.Errorf("Number(%d, %s): %d, error %d", kind, s, n, err)
			}
		}
	}
	for _, s := range samples() {
		for kind := range 7 {
			checkNumber(t, api.Token{Kind: kind, Text: s})
		}
	}
	r := rand.New(rand.NewSource(4))
	for range 5000 {
		b := make([]byte, 1+r.Intn(21))
		for i := range b {
			b[i] = digits[r.Intn(10)]
		}
		if r.Intn(10) == 0 {
			b[r.Intn(len(b))] = byte(r.Intn(256))
		}
		checkNumber(t, num(string(b)))
	}
}

// checkValue holds Value of a token against what it has to answer, and Quote of that against the token.
func checkValue(t *testing.T, one api.Token) {
	t.Helper()
	s, err := lex.Value(one)
	if want, wantErr := wantValue(one); s != want || err != wantErr {
		t.Fatalf("Value(%v): %q, error %d, want %q, %d", one, short(s), err, short(want), wantErr)
	}
	if err != api.OK {
		return
	}
	if again, err := lex.Quote(s); again != one.Text || err != api.OK {
		t.Fatalf("Quote of Value(%v): %q, error %d", one, short(again), err)
	}
}

// P10.3, P10.4: Value.
func TestValue(t *testing.T) {
	for s, want := range map[string]string{
		`""`: "", `" "`: " ", `"a"`: "a", `"~"`: "~", `"\""`: `"`, `"\\"`: `\`, `"\n"`: "\n", `"\\n"`: `\n`, `"\\\n"`: "\\\n", `"\"\""`: `""`, `"n"`: "n",
		`"a\"b\\c\nd"`: "a\"b\\c\nd", `"// c; #"`: "// c; #", `"\\\""`: `\"`,
	} {
		checkValue(t, text(s))
		if got, err := lex.Value(text(s)); got != want || err != api.OK {
			t.Errorf("Value(%s): %q, error %d", s, got, err)
		}
	}
	for _, s := range []string{"", "a", `"`, `a"`, `"a`, `"\`, `"\"`, `"a" `, ` "a"`, `"a""b"`, `"a"b`, `"a"//`, `"a"` + "\n", `"\a"`, `"\t"`, `"\0"`, `"\'"`, `"\N"`, "\"\n\"", "\"\t\"", "\"\\\n\"", "\"\x1f\"", "\"\x7f\"", "\"\x80\"", "\"\u00e9\"", "'a'", "`a`", `\"`, `""a`, `"""`} {
		if got, err := lex.Value(text(s)); got != "" || err != api.ErrLex {
			t.Errorf("Value(%q): %q, error %d", s, got, err)
		}
	}
	for _, kind := range []int{math.MinInt, -3, 0, 1, 2, 4, 5, 6, 1<<32 + 3} {
		for _, s := range []string{"", `""`, `"a"`, "a", "1", "+", ";"} {
			if got, err := lex.Value(api.Token{Kind: kind, Text: s}); got != "" || err != api.ErrLex {
				t.Errorf("Value(%d, %s): %q, error %d", kind, s, got, err)
			}
		}
	}
	for n := range 256 {
		s := string([]byte{byte(n)})
		for _, one := range []string{`"` + s + `"`, `"\` + s + `"`, `"a` + s, s + `a"`, `"a"` + s, `"\\` + s + `"`} {
			checkValue(t, text(one))
		}
	}
	for _, s := range samples() {
		for kind := range 7 {
			checkValue(t, api.Token{Kind: kind, Text: s})
		}
	}
	r := rand.New(rand.NewSource(5))
	for range 5000 {
		var b strings.Builder
		for range r.Intn(8) {
			b.WriteString([]string{"a", "n", `\n`, `\\`, `\"`, " ", "~", `\`, `"`, "\n", "\x7f"}[min(r.Intn(20), r.Intn(20), 10)])
		}
		checkValue(t, text(`"`+b.String()+`"`))
	}
}

// checkQuote holds Quote of a text against what it has to answer, and Value of that against the text.
func checkQuote(t *testing.T, s string) {
	t.Helper()
	quoted, err := lex.Quote(s)
	if want, wantErr := wantQuote(s); quoted != want || err != wantErr {
		t.Fatalf("Quote(%q): %s, error %d, want %s, %d", short(s), short(quoted), err, short(want), wantErr)
	}
	if err != api.OK {
		return
	}
	if again, err := lex.Value(text(quoted)); again != s || err != api.OK {
		t.Fatalf("Value of Quote(%q): %q, error %d", short(s), short(again), err)
	}
	if len(quoted) <= 4096 {
		lexes(t, quoted, at(text(quoted), 0), at(end, len(quoted)))
	}
}

// P10.3, P10.4: Quote.
func TestQuote(t *testing.T) {
	for s, want := range map[string]string{
		"": `""`, "a": `"a"`, " ": `" "`, "~": `"~"`, `"`: `"\""`, `\`: `"\\"`, "\n": `"\n"`, `\n`: `"\\n"`, "a\n\"b\"\\": `"a\n\"b\"\\"`, "//;#": `"//;#"`,
	} {
		checkQuote(t, s)
		if got, err := lex.Quote(s); got != want || err != api.OK {
			t.Errorf("Quote(%q): %s, error %d", s, got, err)
		}
	}
	for n := range 256 {
		c := byte(n)
		for _, s := range []string{string([]byte{c}), "a" + string([]byte{c}), string([]byte{c}) + "b", "\n" + string([]byte{c}) + `"`} {
			checkQuote(t, s)
			if _, err := lex.Quote(s); (err == api.OK) != (c == 10 || c >= 32 && c <= 126) {
				t.Errorf("Quote(%q): error %d", s, err)
			}
		}
	}
	for _, s := range []string{"\t", "\r", "a\tb", "\x00", "\x1f", "\x7f", "\x80", "\xff", "\u00e9", "\ufffd", "\U0001f600", "ok\x7f"} {
		if got, err := lex.Quote(s); got != "" || err != api.ErrArg {
			t.Errorf("Quote(%q): %q, error %d", s, got, err)
		}
	}
	// A text may be longer than a file.
	for _, n := range []int{4093, 4094, 4095, 4096, 5000, 1 << 17} {
		checkQuote(t, strings.Repeat("a", n))
		checkQuote(t, strings.Repeat("\n", n))
		checkQuote(t, strings.Repeat(`"`, n))
		checkQuote(t, strings.Repeat(`\`, n)+"\t")
	}
	r := rand.New(rand.NewSource(6))
	for range 5000 {
		b := make([]byte, r.Intn(12))
		for i := range b {
			b[i] = byte(32 + r.Intn(95))
			switch r.Intn(8) {
			case 0:
				b[i] = "\n\"\\n"[r.Intn(4)]
			case 1:
				if r.Intn(8) == 0 {
					b[i] = byte(r.Intn(256))
				}
			}
		}
		checkQuote(t, string(b))
	}
}
