package lex_test

import (
	"math/big"
	"math/rand"
	"regexp"
	"slices"
	"strings"
	"testing"

	"shipwright/api"
	"shipwright/lex"
)

// What tokens are, which may be, and what each call has to answer is said here anew from the chapter's words, line by line and by patterns, so that the tests do not lean on what they test.

var signs = strings.Fields(":= == != <= >= && || ( ) { } [ ] , . : = + - * / % < > !")

var closers = []string{")", "]", "}"}

var (
	skipped = regexp.MustCompile(`^(?:[\t\r ]|//.*)`)
	words   = regexp.MustCompile(`^[A-Za-z_][A-Za-z0-9_]*`)
	numbers = regexp.MustCompile(`^[0-9]+`)
	spliced = regexp.MustCompile(`^[0-9]+[A-Za-z_]`)
	texts   = regexp.MustCompile(`^"(?:[ !#-\[\]-~]|\\["\\n])*"`)
	pairs   = strings.NewReplacer(`\"`, `"`, `\\`, `\`, `\n`, "\n")
	escapes = strings.NewReplacer(`"`, `\"`, `\`, `\\`, "\n", `\n`)
	largest = big.NewInt(1<<63 - 1)
)

func word(s string) api.Token { return api.Token{Kind: api.TokWord, Text: s} }

func num(s string) api.Token { return api.Token{Kind: api.TokInt, Text: s} }

func text(s string) api.Token { return api.Token{Kind: api.TokText, Text: s} }

func sign(s string) api.Token { return api.Token{Kind: api.TokSign, Text: s} }

var (
	semi = api.Token{Kind: api.TokEnd, Text: ";"}
	end  = api.Token{Kind: api.TokEnd}
)

// at is a token in its place.
func at(t api.Token, n int) api.Token {
	t.At = n
	return t
}

func closing(t api.Token) bool {
	switch t.Kind {
	case 1, 2, 3:
		return true
	}
	return t.Kind == 4 && slices.Contains(closers, t.Text)
}

// mayNumber tells whether digits are a number that may be.
func mayNumber(s string) bool {
	n, ok := new(big.Int).SetString(s, 10)
	return ok && numbers.FindString(s) == s && n.String() == s && n.Cmp(largest) <= 0
}

// longest is the longest sign that begins s.
func longest(s string) string {
	found := ""
	for _, one := range signs {
		if strings.HasPrefix(s, one) && len(one) > len(found) {
			found = one
		}
	}
	return found
}

// wantToken is the token that begins s, or what is wrong there.
func wantToken(s string) (api.Token, api.Errno) {
	if found := words.FindString(s); found != "" {
		if len(found) > 24 {
			return api.Token{}, api.ErrLong
		}
		return word(found), api.OK
	}
	if found := numbers.FindString(s); found != "" {
		if !mayNumber(found) || spliced.MatchString(s) {
			return api.Token{}, api.ErrNumber
		}
		return num(found), api.OK
	}
	if found := texts.FindString(s); found != "" {
		return text(found), api.OK
	}
	if strings.HasPrefix(s, ";") {
		return semi, api.OK
	}
	if found := longest(s); found != "" {
		return sign(found), api.OK
	}
	return api.Token{}, api.ErrLex
}

// wantLex goes line by line: no token and no comment goes on behind a line feed.
func wantLex(s string) ([]api.Token, api.Spot) {
	if len(s) > 4096 {
		return nil, api.Spot{Err: api.ErrLong}
	}
	var list []api.Token
	begin := 0
	for _, line := range strings.Split(s, "\n") {
		behind := begin + len(line)
		for rest := line; rest != ""; {
			if found := skipped.FindString(rest); found != "" {
				rest = rest[len(found):]
				continue
			}
			one, err := wantToken(rest)
			if err == api.OK && len(list) == 1024 {
				err = api.ErrLong
			}
			if err != api.OK {
				return nil, api.Spot{Err: err, At: behind - len(rest)}
			}
			list = append(list, at(one, behind-len(rest)))
			rest = rest[len(one.Text):]
		}
		if n := len(list); n > 0 && closing(list[n-1]) {
			if n == 1024 {
				return nil, api.Spot{Err: api.ErrLong, At: behind}
			}
			list = append(list, at(end, behind))
		}
		begin = behind + 1
	}
	return list, api.Spot{}
}

// mayToken tells whether a token that is no end without Text may be, by itself.
func mayToken(t api.Token) bool {
	if len(t.Text) > 4096 {
		return false
	}
	switch t.Kind {
	case 1:
		return t.Text != "" && words.FindString(t.Text) == t.Text && len(t.Text) <= 24
	case 2:
		return mayNumber(t.Text)
	case 3:
		return t.Text != "" && texts.FindString(t.Text) == t.Text
	case 4:
		return slices.Contains(signs, t.Text)
	}
	return t.Kind == 5 && t.Text == ";"
}

func wantCheck(l []api.Token) api.Errno {
	may := len(l) <= 1024
	for i, t := range l {
		if t.Kind == 5 && t.Text == "" {
			may = may && i > 0 && closing(l[i-1])
		} else {
			may = may && mayToken(t)
		}
	}
	if !may || len(l) > 0 && closing(l[len(l)-1]) {
		return api.ErrArg
	}
	return api.OK
}

// wantPrint parts all by blanks, and takes those at line feeds away: no Text begins or ends with a blank, or has a line feed.
func wantPrint(l []api.Token) (string, api.Errno) {
	if err := wantCheck(l); err != api.OK {
		return "", err
	}
	var parts []string
	for _, t := range l {
		if t.Text == "" {
			t.Text = "\n"
		}
		parts = append(parts, t.Text)
	}
	s := strings.Join(parts, " ")
	s = strings.ReplaceAll(s, " \n", "\n")
	s = strings.ReplaceAll(s, "\n ", "\n")
	if len(s) > 4096 {
		return "", api.ErrLong
	}
	return s, api.OK
}

func wantSame(a, b []api.Token) bool {
	for i := 0; i < max(len(a), len(b)); i++ {
		if i >= len(a) || i >= len(b) || a[i].Kind != b[i].Kind || a[i].Text != b[i].Text {
			return false
		}
	}
	return true
}

func wantNumber(t api.Token) (int64, api.Errno) {
	if t.Kind != 2 || !mayNumber(t.Text) {
		return 0, api.ErrNumber
	}
	n, _ := new(big.Int).SetString(t.Text, 10)
	return n.Int64(), api.OK
}

func wantValue(t api.Token) (string, api.Errno) {
	if t.Kind != 3 || t.Text == "" || texts.FindString(t.Text) != t.Text {
		return "", api.ErrLex
	}
	return pairs.Replace(t.Text[1 : len(t.Text)-1]), api.OK
}

func wantQuote(s string) (string, api.Errno) {
	for i := 0; i < len(s); i++ {
		if s[i] != 10 && (s[i] < 32 || s[i] > 126) {
			return "", api.ErrArg
		}
	}
	return `"` + escapes.Replace(s) + `"`, api.OK
}

// equal tells whether both lists are the same, with the places.
func equal(a, b []api.Token) bool { return slices.Equal(a, b) }

// short is the beginning of what is too long to be told.
func short(s string) string { return s[:min(len(s), 80)] }

// check holds what Lex tells of a text against what it has to tell, and what follows of it.
func check(t *testing.T, s string) ([]api.Token, api.Spot) {
	t.Helper()
	got, spot := lex.Lex(s)
	want, wantSpot := wantLex(s)
	if spot != wantSpot || !equal(got, want) {
		t.Fatalf("Lex(%q): %v, %v, want %v, %v", short(s), got, spot, want, wantSpot)
	}
	follow(t, s, got)
	return got, spot
}

// follow is P10.4 of a text and what Lex tells of it.
func follow(t *testing.T, s string, l []api.Token) {
	t.Helper()
	if err := lex.Check(l); err != api.OK {
		t.Fatalf("Lex(%q): %v: Check: error %d", short(s), l, err)
	}
	for i, one := range l {
		if one.At < 0 || one.At+len(one.Text) > len(s) || s[one.At:one.At+len(one.Text)] != one.Text {
			t.Fatalf("Lex(%q): %v does not stand there", short(s), one)
		}
		if i > 0 && (l[i-1].At >= one.At || l[i-1].At+len(l[i-1].Text) > one.At) {
			t.Fatalf("Lex(%q): %v and %v lap over", short(s), l[i-1], one)
		}
	}
	checkPrint(t, l)
}

// checkPrint holds Check and Print of tokens against what they have to tell, and Lex of what is printed against the tokens.
func checkPrint(t *testing.T, l []api.Token) {
	t.Helper()
	if got, want := lex.Check(l), wantCheck(l); got != want {
		t.Fatalf("Check(%v): error %d, want %d", l, got, want)
	}
	s, err := lex.Print(l)
	if want, wantErr := wantPrint(l); err != wantErr || s != want {
		t.Fatalf("Print(%v): %q, error %d, want %q, %d", l, short(s), err, short(want), wantErr)
	}
	if err != api.OK {
		return
	}
	again, spot := lex.Lex(s)
	if spot != (api.Spot{}) || !wantSame(again, l) || !lex.Same(again, l) {
		t.Fatalf("Lex of Print(%v), %q: %v, %v", l, short(s), again, spot)
	}
}

// lexes is a text whose tokens are said by hand.
func lexes(t *testing.T, s string, want ...api.Token) {
	t.Helper()
	if got, spot := check(t, s); spot != (api.Spot{}) || !equal(got, want) {
		t.Errorf("Lex(%q): %v, %v, want %v", short(s), got, spot, want)
	}
}

// fails is a text whose error is said by hand.
func fails(t *testing.T, s string, err api.Errno, place int) {
	t.Helper()
	if got, spot := check(t, s); spot != (api.Spot{Err: err, At: place}) || len(got) != 0 {
		t.Errorf("Lex(%q): %v, %v, want error %d at %d", short(s), got, spot, err, place)
	}
}

// pieces is what texts are put together from by chance.
var pieces = append([]string{
	" ", "\t", "\r", "\n", "\n\n", ";", "// c", "// \"#", "//\n", "/", "&", "|", "#", "\"", "\\", "'", "\x00", "\x80", "\u00e9",
	"a", "_", "Z9", "if", "abcdefghijklmnopqrstuvwx", "abcdefghijklmnopqrstuvwxy", "0", "1", "10", "00", "07", "9223372036854775807", "9223372036854775808",
	`""`, `"a b"`, `"\""`, `"\\"`, `"\n"`, `"//"`, `"\t"`, "\"\n\"", "\"\t\"",
}, signs...)

// chance is a text of some pieces; few of them are wrong.
func chance(r *rand.Rand, n int) string {
	var b strings.Builder
	for range n {
		piece := pieces[r.Intn(len(pieces))]
		if _, spot := wantLex(piece); spot.Err != api.OK && r.Intn(8) > 0 {
			piece = " "
		}
		b.WriteString(piece)
	}
	return b.String()
}
