package lex_test

import (
	"math/rand"
	"slices"
	"strings"
	"testing"

	"shipwright/api"
	"shipwright/lex"
)

// P10.1 to P10.3: the chapter's examples.
func TestExamples(t *testing.T) {
	lexes(t, "x := f(1) // y\n",
		at(word("x"), 0), at(sign(":="), 2), at(word("f"), 5), at(sign("("), 6), at(num("1"), 7), at(sign(")"), 8), at(end, 14))
	lexes(t, "a", at(word("a"), 0), at(end, 1))
	lexes(t, "+\na", at(sign("+"), 0), at(word("a"), 2), at(end, 3))
	lexes(t, "a;", at(word("a"), 0), at(semi, 1))
	fails(t, "007", api.ErrNumber, 0)
	fails(t, "9223372036854775808", api.ErrNumber, 0)
	fails(t, "1a", api.ErrNumber, 0)
	fails(t, "#", api.ErrLex, 0)
	fails(t, "\"a", api.ErrLex, 0)
	printed, err := lex.Print([]api.Token{word("if"), word("x"), sign("{"), word("y"), end, sign("}"), end})
	if printed != "if x { y\n}\n" || err != api.OK {
		t.Errorf("Print: %q, error %d", printed, err)
	}
	if s, err := lex.Value(text(`"a\n\""`)); s != "a\n\"" || err != api.OK {
		t.Errorf("Value: %q, error %d", s, err)
	}
	if s, err := lex.Quote("\t"); s != "" || err != api.ErrArg {
		t.Errorf("Quote: %q, error %d", s, err)
	}
	if !lex.Word("_a1") || lex.Word("1a") {
		t.Error("Word")
	}
}

// P10.1: texts of 0, 1, MaxText and MaxText + 1 bytes.
func TestSizes(t *testing.T) {
	lexes(t, "")
	for _, s := range []string{" ", "\n", "\t", "\r", "/", "+", ";", "a", "7"} {
		check(t, s)
	}
	lexes(t, " ")
	lexes(t, "\n")
	lexes(t, ";", at(semi, 0))
	for _, c := range []string{" ", "\n", "/", "\t", "\r"} {
		lexes(t, strings.Repeat(c, api.MaxText))
		fails(t, strings.Repeat(c, api.MaxText+1), api.ErrLong, 0)
	}
	long := func(n int) string { return `"` + strings.Repeat("a", n-2) + `"` }
	lexes(t, long(4096), at(text(long(4096)), 0), at(end, 4096))
	fails(t, long(4097), api.ErrLong, 0)
	lexes(t, strings.Repeat(" ", 4095)+"a", at(word("a"), 4095), at(end, 4096))
	lexes(t, strings.Repeat(" ", 4095)+"+", at(sign("+"), 4095))
	fails(t, strings.Repeat(" ", 4095)+"#", api.ErrLex, 4095)
	fails(t, strings.Repeat("#", 4096), api.ErrLex, 0)
	fails(t, strings.Repeat("#", 4097), api.ErrLong, 0)
	fails(t, "007"+strings.Repeat(" ", 4094), api.ErrLong, 0)
	fails(t, strings.Repeat(" ", 1<<20), api.ErrLong, 0)
}

const (
	letters = "abcdefghijklmnopqrstuvwxyzABCDEFGHIJKLMNOPQRSTUVWXYZ_"
	digits  = "0123456789"
	blanks  = "\t\r "
	single  = "(){}[],.:=+-*/%<>!"
)

// among tells whether a byte is one of these.
func among(c byte, list string) bool { return strings.IndexByte(list, c) >= 0 }

// P10.1: each byte alone.
func TestEachByte(t *testing.T) {
	for n := range 256 {
		c := byte(n)
		s := string([]byte{c})
		switch {
		case among(c, letters):
			lexes(t, s, at(word(s), 0), at(end, 1))
		case among(c, digits):
			lexes(t, s, at(num(s), 0), at(end, 1))
		case among(c, ")}]"):
			lexes(t, s, at(sign(s), 0), at(end, 1))
		case among(c, single):
			lexes(t, s, at(sign(s), 0))
		case among(c, blanks) || c == '\n':
			lexes(t, s)
		case c == ';':
			lexes(t, s, at(semi, 0))
		default:
			fails(t, s, api.ErrLex, 0)
		}
	}
}

// P10.1: each byte inside a word, a number, a text, a pair of a text, and a comment.
func TestEachByteInside(t *testing.T) {
	for n := range 256 {
		c := byte(n)
		s := string([]byte{c})
		inWord, inNumber, inText, inComment := "a"+s+"b", "1"+s+"2", `"a`+s+`b"`, "//a"+s+"b"
		switch {
		case among(c, letters):
			lexes(t, inWord, at(word(inWord), 0), at(end, 3))
			fails(t, inNumber, api.ErrNumber, 0)
		case among(c, digits):
			lexes(t, inWord, at(word(inWord), 0), at(end, 3))
			lexes(t, inNumber, at(num(inNumber), 0), at(end, 3))
		case among(c, blanks):
			lexes(t, inWord, at(word("a"), 0), at(word("b"), 2), at(end, 3))
			lexes(t, inNumber, at(num("1"), 0), at(num("2"), 2), at(end, 3))
		case c == '\n':
			lexes(t, inWord, at(word("a"), 0), at(end, 1), at(word("b"), 2), at(end, 3))
			lexes(t, inNumber, at(num("1"), 0), at(end, 1), at(num("2"), 2), at(end, 3))
		case c == ';':
			lexes(t, inWord, at(word("a"), 0), at(semi, 1), at(word("b"), 2), at(end, 3))
			lexes(t, inNumber, at(num("1"), 0), at(semi, 1), at(num("2"), 2), at(end, 3))
		case among(c, single):
			lexes(t, inWord, at(word("a"), 0), at(sign(s), 1), at(word("b"), 2), at(end, 3))
			lexes(t, inNumber, at(num("1"), 0), at(sign(s), 1), at(num("2"), 2), at(end, 3))
		default:
			fails(t, inWord, api.ErrLex, 1)
			fails(t, inNumber, api.ErrLex, 1)
		}
		switch {
		case c == '"':
			fails(t, inText, api.ErrLex, 4)
		case c >= 32 && c <= 126 && c != '\\':
			lexes(t, inText, at(text(inText), 0), at(end, 5))
		default:
			fails(t, inText, api.ErrLex, 0)
		}
		pair := `"\` + s + `"`
		if among(c, `"\n`) {
			lexes(t, pair, at(text(pair), 0), at(end, 4))
		} else {
			fails(t, pair, api.ErrLex, 0)
		}
		if c == '\n' {
			lexes(t, inComment, at(word("b"), 4), at(end, 5))
		} else {
			lexes(t, inComment)
		}
	}
}

// P10.1: each sign alone, and right ahead of each other one: each token is as long as it can be.
func TestSigns(t *testing.T) {
	for _, s := range signs {
		if slices.Contains(closers, s) {
			lexes(t, s, at(sign(s), 0), at(end, len(s)))
		} else {
			lexes(t, s, at(sign(s), 0))
		}
		for _, next := range append([]string{";", "&", "|"}, signs...) {
			check(t, s+next)
			check(t, "a"+s+next+"b")
			for _, third := range signs {
				check(t, s+next+third)
			}
		}
	}
	lexes(t, "===", at(sign("=="), 0), at(sign("="), 2))
	lexes(t, "====", at(sign("=="), 0), at(sign("=="), 2))
	lexes(t, ":==", at(sign(":="), 0), at(sign("="), 2))
	lexes(t, "::=", at(sign(":"), 0), at(sign(":="), 1))
	lexes(t, "=:=", at(sign("="), 0), at(sign(":="), 1))
	lexes(t, "!!=", at(sign("!"), 0), at(sign("!="), 1))
	lexes(t, "<=>=", at(sign("<="), 0), at(sign(">="), 2))
	lexes(t, "<<=", at(sign("<"), 0), at(sign("<="), 1))
	lexes(t, "=<", at(sign("="), 0), at(sign("<"), 1))
	lexes(t, "=!", at(sign("="), 0), at(sign("!"), 1))
	lexes(t, "&&||", at(sign("&&"), 0), at(sign("||"), 2))
	lexes(t, "+=", at(sign("+"), 0), at(sign("="), 1))
	lexes(t, "++", at(sign("+"), 0), at(sign("+"), 1))
	lexes(t, "/*", at(sign("/"), 0), at(sign("*"), 1))
	lexes(t, "/=", at(sign("/"), 0), at(sign("="), 1))
	lexes(t, "/ /", at(sign("/"), 0), at(sign("/"), 2))
	lexes(t, "*/", at(sign("*"), 0), at(sign("/"), 1))
	lexes(t, "..", at(sign("."), 0), at(sign("."), 1))
	lexes(t, ": =", at(sign(":"), 0), at(sign("="), 2))
	lexes(t, "//")
	lexes(t, "///")
	lexes(t, "+//", at(sign("+"), 0))
	fails(t, "&", api.ErrLex, 0)
	fails(t, "|", api.ErrLex, 0)
	fails(t, "& &", api.ErrLex, 0)
	fails(t, "&|", api.ErrLex, 0)
	fails(t, "|&", api.ErrLex, 0)
	fails(t, "&&&", api.ErrLex, 2)
	fails(t, "|||", api.ErrLex, 2)
	fails(t, "a &= b", api.ErrLex, 2)
}

// P10.1: blanks, line feeds and comments ahead of, between and behind tokens.
func TestBetween(t *testing.T) {
	gaps := []string{"", " ", "\t", "\r", " \t\r ", "// c\n", " // \"c\" #\n\t", "//\n//\n", "\n", "\n\n", "\r\n", " \n \n "}
	ones := []api.Token{word("a"), num("10"), text(`"b"`), sign("+"), sign(")"), sign(":="), semi}
	for _, first := range ones {
		for _, second := range ones {
			for _, ahead := range gaps {
				for _, between := range gaps {
					check(t, ahead+first.Text+between+second.Text)
					check(t, first.Text+ahead+second.Text+between)
					check(t, first.Text+ahead+second.Text+between+"// d")
				}
			}
		}
	}
	lexes(t, " \t\r a", at(word("a"), 4), at(end, 5))
	lexes(t, "a \t\r ", at(word("a"), 0), at(end, 5))
	lexes(t, "// a\n+ // b", at(sign("+"), 5))
	lexes(t, "a//b", at(word("a"), 0), at(end, 4))
	lexes(t, "a /b", at(word("a"), 0), at(sign("/"), 2), at(word("b"), 3), at(end, 4))
	lexes(t, "1//\n2", at(num("1"), 0), at(end, 3), at(num("2"), 4), at(end, 5))
	lexes(t, `"a"//"`, at(text(`"a"`), 0), at(end, 6))
	lexes(t, `"//"b`, at(text(`"//"`), 0), at(word("b"), 4), at(end, 5))
	lexes(t, `"a""b"`, at(text(`"a"`), 0), at(text(`"b"`), 3), at(end, 6))
	lexes(t, `a"b"1`, at(word("a"), 0), at(text(`"b"`), 1), at(num("1"), 4), at(end, 5))
	lexes(t, "a.b", at(word("a"), 0), at(sign("."), 1), at(word("b"), 2), at(end, 3))
	lexes(t, "1.5", at(num("1"), 0), at(sign("."), 1), at(num("5"), 2), at(end, 3))
	lexes(t, "-1", at(sign("-"), 0), at(num("1"), 1), at(end, 2))
	lexes(t, "// a\r\nb\r\n", at(word("b"), 6), at(end, 8))
}

// P10.1: where a line ends: behind each kind of token and each sign, at a line feed and at the text's end.
func TestEnds(t *testing.T) {
	ones := []api.Token{word("a"), word("_"), num("0"), num("12"), text(`""`), text(`"a"`)}
	for _, s := range signs {
		ones = append(ones, sign(s))
	}
	for _, one := range ones {
		n := len(one.Text)
		for _, gap := range []string{"", " ", " \t\r", "// c", " // \x80;)"} {
			at1, at2 := n+len(gap), n+len(gap)+1
			if one.Text == "/" && strings.HasPrefix(gap, "//") {
				continue
			}
			if closing(one) {
				lexes(t, one.Text+gap, one, at(end, at1))
				lexes(t, one.Text+gap+"\n", one, at(end, at1))
				lexes(t, one.Text+gap+"\n\n \n// d\n\n", one, at(end, at1))
				lexes(t, one.Text+gap+"\n\n-", one, at(end, at1), at(sign("-"), at2+1))
				lexes(t, one.Text+gap+"\nb", one, at(end, at1), at(word("b"), at2), at(end, at2+1))
				lexes(t, one.Text+gap+"\n;", one, at(end, at1), at(semi, at2))
			} else {
				lexes(t, one.Text+gap, one)
				lexes(t, one.Text+gap+"\n", one)
				lexes(t, one.Text+gap+"\n\n \n// d\n\n", one)
				lexes(t, one.Text+gap+"\nb", one, at(word("b"), at2), at(end, at2+1))
				lexes(t, one.Text+gap+"\n;", one, at(semi, at2))
			}
		}
		lexes(t, one.Text+";", one, at(semi, n))
		lexes(t, one.Text+" ;\n\n", one, at(semi, n+1))
		lexes(t, one.Text+";;", one, at(semi, n), at(semi, n+1))
		lexes(t, one.Text+";\n;\n", one, at(semi, n), at(semi, n+2))
		lexes(t, one.Text+"; // c", one, at(semi, n))
	}
	lexes(t, "\n\n")
	lexes(t, "// a")
	lexes(t, "// a\n")
	lexes(t, " \n// a\n\n// b\n ")
	lexes(t, ";\n", at(semi, 0))
	lexes(t, "\n;", at(semi, 1))
	lexes(t, "(a\n)", at(sign("("), 0), at(word("a"), 1), at(end, 2), at(sign(")"), 3), at(end, 4))
	lexes(t, "a\n\n\nb", at(word("a"), 0), at(end, 1), at(word("b"), 4), at(end, 5))
}

// P10.1: words of 1, MaxName and MaxName + 1 bytes.
func TestWords(t *testing.T) {
	for _, c := range []string{"a", "Z", "_"} {
		for _, n := range []int{1, 2, 23, 24} {
			s := strings.Repeat(c, n)
			lexes(t, s, at(word(s), 0), at(end, n))
			lexes(t, " "+s+"+", at(word(s), 1), at(sign("+"), n+1))
		}
		for _, n := range []int{25, 26, 48, 4000} {
			s := strings.Repeat(c, n)
			fails(t, s, api.ErrLong, 0)
			fails(t, "+ "+s, api.ErrLong, 2)
		}
		fails(t, strings.Repeat(c, 24)+"0", api.ErrLong, 0)
		fails(t, strings.Repeat(c, 24)+"9#", api.ErrLong, 0)
	}
	lexes(t, "_0", at(word("_0"), 0), at(end, 2))
	lexes(t, "if", at(word("if"), 0), at(end, 2))
	fails(t, "a\u00e9", api.ErrLex, 1)
	fails(t, strings.Repeat("a", 24)+"\u00e9", api.ErrLex, 24)
}

// P10.1: numbers that may be, and that may not.
func TestNumbers(t *testing.T) {
	for _, s := range []string{"0", "1", "9", "10", "19", "90", "100", "1000000000000000000", "9223372036854775800", "9223372036854775806", "9223372036854775807"} {
		lexes(t, s, at(num(s), 0), at(end, len(s)))
		lexes(t, "a "+s+";", at(word("a"), 0), at(num(s), 2), at(semi, 2+len(s)))
		for _, c := range letters {
			fails(t, s+string(c), api.ErrNumber, 0)
		}
	}
	for _, s := range []string{"00", "01", "007", "0000000000000000000000", "0x1", "1_0", "1e5", "09", "010", "00a",
		"9223372036854775808", "9223372036854775810", "9223372036854775817", "9300000000000000000", "9999999999999999999", "10000000000000000000", "18446744073709551615", "18446744073709551616", "18446744073709551617", "36893488147419103232", "92233720368547758070",
		strings.Repeat("9", 40), "1" + strings.Repeat("0", 4000), strings.Repeat("7", 4096)} {
		fails(t, s, api.ErrNumber, 0)
		if len(s) < 4000 {
			fails(t, "\n+ "+s+" #", api.ErrNumber, 3)
		}
	}
	lexes(t, "0 0", at(num("0"), 0), at(num("0"), 2), at(end, 3))
	fails(t, "1\u00e9", api.ErrLex, 1)
	fails(t, "1#", api.ErrLex, 1)
}

// P10.1: texts, and what is none.
func TestTexts(t *testing.T) {
	for _, s := range []string{`""`, `" "`, `"a"`, `"~"`, `"\""`, `"\\"`, `"\n"`, `"\\\\"`, `"\\\""`, `"\\n"`, `"\"\\\n\n"`, `"'"`, `";"`, `"// a"`, `"#&|"`, `"007"`} {
		lexes(t, s, at(text(s), 0), at(end, len(s)))
		lexes(t, " "+s+"b"+s, at(text(s), 1), at(word("b"), 1+len(s)), at(text(s), 2+len(s)), at(end, 2+2*len(s)))
	}
	for _, s := range []string{`"`, `"a`, `"\`, `"\"`, `"\\\"`, `"\n`, `"a\`, `"\a"`, `"\0"`, `"\t"`, `"\r"`, `"\'"`, `"\N"`, `"\ "`, "\"\\\n\"", "\"\n\"", "\"a\nb\"", "\"\t\"", "\"\r\"", "\"\x00\"", "\"\x1f\"", "\"\x7f\"", "\"\x80\"", "\"\xff\"", "\"\u00e9\"", `"\x41"`, `"\` + "\xc3\""} {
		fails(t, s, api.ErrLex, 0)
		fails(t, "a "+s, api.ErrLex, 2)
	}
	fails(t, `"""`, api.ErrLex, 2)
	fails(t, `"a"b"`, api.ErrLex, 4)
	fails(t, "'a'", api.ErrLex, 0)
	fails(t, "`a`", api.ErrLex, 0)
}

// P10.1: MaxTokens tokens, and one more; an end is one, too.
func TestMaxTokens(t *testing.T) {
	plus := strings.Repeat("+", 1023)
	full := strings.Repeat("+", 1024)
	for s, n := range map[string]int{
		full:               1024,
		full + " \n//\n\n": 1024,
		plus + ";":         1024,
		plus + ";\n":       1024,
		plus + ":=":        1024,
		plus + "{\n":       1024,
		plus[1:] + "a":     1024,
		plus[1:] + "a\n":   1024,
		plus[1:] + "a;\n":  1024,
		plus[1:] + ")//":   1024,
	} {
		if list, spot := check(t, s); spot != (api.Spot{}) || len(list) != n {
			t.Errorf("%d tokens, %v", len(list), spot)
		}
	}
	for _, one := range []string{"+", ":=", ";", "a", "(", ")", "1", `"a"`, strings.Repeat("a", 25)} {
		fails(t, full+one, api.ErrLong, 1024)
		fails(t, full+" \n//\n"+one+" #", api.ErrLong, 1029)
	}
	for _, one := range []string{"a", ")", "]", "}", "1", `"a"`, strings.Repeat("a", 24)} {
		n := 1023 + len(one)
		fails(t, plus+one, api.ErrLong, n)
		fails(t, plus+one+"\n", api.ErrLong, n)
		fails(t, plus+one+" // c\n#", api.ErrLong, n+5)
		fails(t, plus+one+" // c", api.ErrLong, n+5)
		fails(t, plus+one+" ;", api.ErrLong, n+1)
		fails(t, plus+one+" +", api.ErrLong, n+1)
		fails(t, plus+one+" #", api.ErrLex, n+1)
	}
	// Of two errors of one token the one that is named first.
	fails(t, full+"#", api.ErrLex, 1024)
	fails(t, full+`"a`, api.ErrLex, 1024)
	fails(t, full+"&", api.ErrLex, 1024)
	fails(t, full+"007", api.ErrNumber, 1024)
	fails(t, full+"1a", api.ErrNumber, 1024)
	fails(t, strings.Repeat("+\n", 1025), api.ErrLong, 2048)
	fails(t, strings.Repeat(";", 1025), api.ErrLong, 1024)
	fails(t, strings.Repeat("a\n", 513), api.ErrLong, 1024)
	fails(t, strings.Repeat(";", 4096), api.ErrLong, 1024)
}

// P10.1: which error is told where two could be: the first one in the text.
func TestFirstError(t *testing.T) {
	long := strings.Repeat("a", 25)
	wrong := []struct {
		s   string
		err api.Errno
	}{{"#", api.ErrLex}, {`"\a"`, api.ErrLex}, {"007", api.ErrNumber}, {"1a", api.ErrNumber}, {long, api.ErrLong}, {"& ", api.ErrLex}}
	for _, first := range wrong {
		for _, second := range wrong {
			for _, ahead := range []string{"", " ", "a\n", "+ // c\n\n", `"x" `} {
				fails(t, ahead+first.s+" "+second.s, first.err, len(ahead))
				fails(t, ahead+first.s+"\n"+second.s+"\n", first.err, len(ahead))
			}
		}
	}
	fails(t, `"a # 007`, api.ErrLex, 0)
	fails(t, `a "b`+"\n# 007", api.ErrLex, 2)
	fails(t, "1a#", api.ErrNumber, 0)
	fails(t, "1"+long, api.ErrNumber, 0)
	fails(t, "007"+long, api.ErrNumber, 0)
	fails(t, long+`"`, api.ErrLong, 0)
	lexes(t, "// # 007 \"a "+long)
}

// P10.1, P10.4: all short texts of some bytes.
func TestShortTexts(t *testing.T) {
	const bytes = "a0 1\"\\n/:=;\n)&+#"
	var all func(s string, n int)
	all = func(s string, n int) {
		check(t, s)
		if n == 0 {
			return
		}
		for _, c := range bytes {
			all(s+string(c), n-1)
		}
	}
	all("", 4)
}

// P10.1, P10.4: texts by chance.
func TestChance(t *testing.T) {
	r := rand.New(rand.NewSource(10))
	right := 0
	for range 8000 {
		if _, spot := check(t, chance(r, r.Intn(24))); spot.Err == api.OK {
			right++
		}
	}
	if right < 2000 {
		t.Errorf("%d texts are right", right)
	}
	for range 2000 {
		b := make([]byte, r.Intn(40))
		r.Read(b)
		check(t, string(b))
	}
	for range 40 {
		check(t, chance(r, 500+r.Intn(1500)))
		var b strings.Builder
		for b.Len() < 3000 {
			if s := chance(r, 1); wantRight(s) {
				b.WriteString(s + " ")
			}
		}
		check(t, b.String())
	}
}

// wantRight tells whether a text has no error.
func wantRight(s string) bool {
	_, spot := wantLex(s)
	return spot.Err == api.OK
}
