package lex_test

import (
	"math"
	"math/rand"
	"slices"
	"strings"
	"testing"
	"unsafe"

	"shipwright/api"
	"shipwright/lex"
)

// may is tokens that may be, and what Print answers.
func may(t *testing.T, want string, l ...api.Token) {
	t.Helper()
	checkPrint(t, l)
	if err := lex.Check(l); err != api.OK {
		t.Errorf("Check(%v): error %d", l, err)
	}
	if s, err := lex.Print(l); s != want || err != api.OK {
		t.Errorf("Print(%v): %q, error %d, want %q", l, s, err, want)
	}
}

// mayNot is tokens that may not be.
func mayNot(t *testing.T, l ...api.Token) {
	t.Helper()
	checkPrint(t, l)
	if err := lex.Check(l); err != api.ErrArg {
		t.Errorf("Check(%v): error %d", l, err)
	}
	if s, err := lex.Print(l); s != "" || err != api.ErrArg {
		t.Errorf("Print(%v): %q, error %d", l, s, err)
	}
}

// several is a token as often as that.
func several(one api.Token, n int) []api.Token { return slices.Repeat([]api.Token{one}, n) }

// samples is Texts of each Kind, and of none.
func samples() []string {
	list := append(strings.Fields("a _ A9 if x_1 0 7 10 9223372036854775807 9223372036854775808 00 07 1a a-b a.b :== +- ;; a; ;a & | # ' \\ // //a a//b /* \" \"a \"\" \"b\" \"\\n\" \"\\\"\" \"\\a\" \"a\"b \"a\"\"b\" -1 +1 &&& === ; \u00e9 a\u00e9 \x80"), signs...)
	for _, s := range []string{"", " ", "\n", "a b", " a", "a ", "a\n", "\na", "a\t", "a\r", "1 ", " 1", "\"a\" ", " \"a\"", "+ ", " +", ": =", "; ", " ;", ";\n", "\n;", "a // b", "+//", ";//", "\"\n\"", "\"\t\"", "\x00", "a\x00"} {
		list = append(list, s)
	}
	for _, n := range []int{23, 24, 25, 26, 4095, 4096, 4097} {
		list = append(list, strings.Repeat("a", n), strings.Repeat("9", n), `"`+strings.Repeat("a", n-2)+`"`, strings.Repeat(" ", n))
	}
	for n := range 256 {
		list = append(list, string([]byte{byte(n)}))
	}
	return list
}

// P10.2: each Kind with each Text.
func TestKindsAndTexts(t *testing.T) {
	right := map[int]int{}
	for _, kind := range []int{math.MinInt, -1, 0, 1, 2, 3, 4, 5, 6, 7, 256 + 1, 1<<32 + 1, math.MaxInt} {
		for _, s := range samples() {
			one := api.Token{Kind: kind, Text: s}
			checkPrint(t, []api.Token{one})
			checkPrint(t, []api.Token{one, semi})
			checkPrint(t, []api.Token{one, end})
			checkPrint(t, []api.Token{word("a"), one, sign("+")})
			checkPrint(t, []api.Token{semi, one, end, word("b"), semi})
			if lex.Check([]api.Token{one, semi}) == api.OK {
				right[kind]++
			}
		}
	}
	for kind := range right {
		if kind < 1 || kind > 5 {
			t.Errorf("Kind %d may be", kind)
		}
	}
	if len(right) != 5 {
		t.Errorf("Kinds that may be: %v", right)
	}
}

// P10.2: tokens that may be, and how they are printed.
func TestMay(t *testing.T) {
	may(t, "")
	may(t, "+", sign("+"))
	may(t, ";", semi)
	may(t, "; ;", semi, semi)
	may(t, "a\n", word("a"), end)
	may(t, "a ;", word("a"), semi)
	may(t, "a\n;", word("a"), end, semi)
	may(t, "a\n; ;", word("a"), end, semi, semi)
	may(t, "a ; b\n", word("a"), semi, word("b"), end)
	may(t, "a\nb\n", word("a"), end, word("b"), end)
	may(t, "a b 1 \"c\" ) ] }\n", word("a"), word("b"), num("1"), text(`"c"`), sign(")"), sign("]"), sign("}"), end)
	may(t, "1\n\"\"\n)\n]\n}\n", num("1"), end, text(`""`), end, sign(")"), end, sign("]"), end, sign("}"), end)
	may(t, "f ( x , y )\n", word("f"), sign("("), word("x"), sign(","), word("y"), sign(")"), end)
	may(t, "x := - 1\n", word("x"), sign(":="), sign("-"), num("1"), end)
	may(t, "/ /", sign("/"), sign("/"))
	may(t, ": = = =", sign(":"), sign("="), sign("="), sign("="))
	may(t, "&& ||", sign("&&"), sign("||"))
	may(t, "\"a  b \" +", text(`"a  b "`), sign("+"))
	for _, s := range signs {
		if slices.Contains(closers, s) {
			may(t, s+"\n", sign(s), end)
			may(t, s+" ;", sign(s), semi)
			mayNot(t, sign(s))
		} else {
			may(t, s, sign(s))
			may(t, s+" ;", sign(s), semi)
			mayNot(t, sign(s), end)
		}
	}
}

// P10.2: tokens whose Kind there is not, or whose Text is none of that Kind.
func TestMayNot(t *testing.T) {
	for _, kind := range []int{math.MinInt, -1, 0, 6, 1 << 40, math.MaxInt} {
		for _, s := range []string{"", "a", "1", `"a"`, "+", ";"} {
			mayNot(t, api.Token{Kind: kind, Text: s}, semi)
			mayNot(t, word("a"), api.Token{Kind: kind, Text: s}, semi)
		}
	}
	for _, s := range []string{"", "1", "1a", "+", ";", `"a"`, "a b", " a", "a ", "a\n", "a;", "a//", "//a", "a+", "\u00e9", "a\u00e9", strings.Repeat("a", 25)} {
		mayNot(t, word(s), semi)
	}
	for _, s := range []string{"", "a", "+", "-1", "+1", "1 ", " 1", "1\n", "1;", "1//", "1 2", "00", "01", "1a", "1_", "9223372036854775808", "1.0"} {
		mayNot(t, num(s), semi)
	}
	for _, s := range []string{"", "a", "1", `"`, `"a`, `a"`, `"a" `, ` "a"`, `"a""b"`, `"a"//`, `"\a"`, `"\"`, "\"\n\"", "\"\t\"", "\"\x7f\"", "\"\x80\"", "\"a\"\n", "'a'"} {
		mayNot(t, text(s), semi)
	}
	for _, s := range []string{"", "a", "1", `"a"`, ";", "&", "|", "#", "+ ", " +", "+\n", "+-", ": =", "===", "//", "+//", "+a", "++"} {
		mayNot(t, sign(s), semi)
	}
	for _, s := range []string{" ", "\n", "; ", " ;", ";;", ";\n", "a", "1", "+", `"a"`, "//", ";//"} {
		mayNot(t, word("a"), api.Token{Kind: api.TokEnd, Text: s})
		mayNot(t, word("a"), api.Token{Kind: api.TokEnd, Text: s}, semi)
	}
}

// P10.2: ends with and without Text in each place, and which token is the last one.
func TestEndsInPlaces(t *testing.T) {
	mayNot(t, end)
	mayNot(t, end, word("a"), semi)
	mayNot(t, end, end)
	mayNot(t, semi, end)
	mayNot(t, sign("+"), end)
	mayNot(t, word("a"), end, end)
	mayNot(t, word("a"), semi, end)
	mayNot(t, word("a"), end, semi, end)
	mayNot(t, word("a"), sign("("), end, semi)
	mayNot(t, word("a"))
	mayNot(t, num("1"))
	mayNot(t, text(`"a"`))
	mayNot(t, word("a"), end, word("b"))
	mayNot(t, word("a"), semi, sign(")"))
	mayNot(t, sign("+"), sign("]"))
	mayNot(t, semi, sign("}"))
	base := []api.Token{word("a"), num("1"), text(`"b"`), sign(")"), sign("]"), sign("}"), sign("("), sign("=="), semi, word("c"), end, sign("!"), semi}
	for i := range len(base) + 1 {
		for _, one := range []api.Token{end, semi} {
			checkPrint(t, slices.Concat(base[:i], []api.Token{one}, base[i:]))
			checkPrint(t, slices.Concat(base[:i], []api.Token{one}))
			checkPrint(t, slices.Concat([]api.Token{one}, base[i:]))
			checkPrint(t, base[:i])
		}
	}
}

// P10.2: MaxTokens tokens, and one more.
func TestMostTokens(t *testing.T) {
	may(t, strings.Repeat("; ", 1023)+";", several(semi, 1024)...)
	mayNot(t, several(semi, 1025)...)
	may(t, strings.Repeat("a ", 1022)+"a\n", append(several(word("a"), 1023), end)...)
	mayNot(t, append(several(word("a"), 1024), end)...)
	mayNot(t, append(several(word("a"), 1024), semi)...)
	mayNot(t, several(word("a"), 1024)...)
	mayNot(t, several(sign("+"), 5000)...)
	mayNot(t, append(several(sign("+"), 1023), api.Token{})...)
}

// P10.2: Print of a text of MaxText and MaxText + 1 bytes; what may not be is told ahead of what is too long.
func TestLongest(t *testing.T) {
	long := func(n int) api.Token { return text(`"` + strings.Repeat("a", n-2) + `"`) }
	may(t, long(4095).Text+"\n", long(4095), end)
	may(t, long(4094).Text+" ;", long(4094), semi)
	may(t, long(4094).Text+" +", long(4094), sign("+"))
	may(t, "+ "+long(4093).Text+"\n", sign("+"), long(4093), end)
	may(t, "a\n"+long(4093).Text+"\n", word("a"), end, long(4093), end)
	tooLong := func(l ...api.Token) {
		t.Helper()
		checkPrint(t, l)
		if err := lex.Check(l); err != api.OK {
			t.Errorf("Check: error %d", err)
		}
		if s, err := lex.Print(l); s != "" || err != api.ErrLong {
			t.Errorf("Print: %d bytes, error %d", len(s), err)
		}
	}
	tooLong(long(4096), end)
	tooLong(long(4095), semi)
	tooLong(long(4096), semi)
	tooLong(sign("+"), long(4094), end)
	tooLong(word("a"), end, long(4094), end)
	tooLong(append(several(long(4096), 1023), end)...)
	// 1022 Texts of 3 bytes, each with a blank behind it: 4088 bytes.
	ahead := several(word("abc"), 1022)
	may(t, strings.Repeat("abc ", 1022)+"abcdefg\n", append(slices.Clone(ahead), word("abcdefg"), end)...)
	tooLong(append(slices.Clone(ahead), word("abcdefgh"), end)...)
	tooLong(append(slices.Clone(ahead), word("abcdefg"), semi)...)
	mayNot(t, long(4096), long(4096))
	mayNot(t, several(long(4096), 1025)...)
	mayNot(t, long(4096), end, end)
	// No text has a token of more bytes than a text may have.
	mayNot(t, long(4097), end)
	mayNot(t, long(4097), semi)
}

// P10.2: At is not asked.
func TestPlacesAreNotAsked(t *testing.T) {
	list := []api.Token{word("a"), end, num("1"), sign("+"), text(`"b"`), semi}
	for _, places := range [][]int{{5, 4, 3, 2, 1, 0}, {-1, -1, -1, -1, -1, -1}, {0, 0, 0, 0, 0, 0}, {math.MaxInt, 0, math.MinInt, 9999, 4097, 1}} {
		moved := slices.Clone(list)
		for i, n := range places {
			moved[i].At = n
		}
		may(t, "a\n1 + \"b\" ;", moved...)
		if !lex.Same(list, moved) || !lex.Same(moved, list) {
			t.Errorf("Same(%v, %v): false", list, moved)
		}
		if n, err := lex.Number(moved[2]); n != 1 || err != api.OK {
			t.Errorf("Number(%v): %d, error %d", moved[2], n, err)
		}
		if s, err := lex.Value(moved[4]); s != "b" || err != api.OK {
			t.Errorf("Value(%v): %q, error %d", moved[4], s, err)
		}
		mayNot(t, append(moved, end)...)
	}
}

// P10.2: Same.
func TestSame(t *testing.T) {
	lists := [][]api.Token{
		nil,
		{end},
		{semi},
		{word("a")},
		{word("b")},
		{word("aa")},
		{num("a")},
		{text("a")},
		{sign("a")},
		{{Kind: 6, Text: "a"}},
		{{Text: "a"}},
		{{}},
		{word("a"), end},
		{word("a"), semi},
		{end, word("a")},
		{word("a"), word("b")},
		{word("b"), word("a")},
		{word("a"), word("a")},
		{word("a"), word("b"), end},
		{word("a"), word("b"), semi},
	}
	for i, a := range lists {
		for j, b := range lists {
			if got := lex.Same(a, b); got != (i == j) {
				t.Errorf("Same(%v, %v): %v", a, b, got)
			}
		}
	}
	if !lex.Same(nil, []api.Token{}) || !lex.Same([]api.Token{}, nil) {
		t.Error("nil and empty are not the same")
	}
	r := rand.New(rand.NewSource(2))
	for range 2000 {
		a, b := someTokens(r, r.Intn(4)), someTokens(r, r.Intn(4))
		if got, want := lex.Same(a, b), wantSame(a, b); got != want {
			t.Fatalf("Same(%v, %v): %v", a, b, got)
		}
	}
}

// someTokens is tokens by chance; most of them may be, by themselves.
func someTokens(r *rand.Rand, n int) []api.Token {
	pool := []api.Token{word("a"), word("b"), num("1"), text(`"a"`), sign(")"), sign("}"), sign("+"), sign("/"), sign("="), sign("=="), sign(":"), semi, end, end}
	if r.Intn(8) == 0 {
		pool = append(pool, api.Token{}, num("00"), sign("&"), word("a b"))
	}
	var list []api.Token
	for range n {
		list = append(list, at(pool[r.Intn(len(pool))], r.Intn(5)-2))
	}
	return list
}

// P10.2, P10.4: tokens by chance.
func TestChanceTokens(t *testing.T) {
	r := rand.New(rand.NewSource(3))
	right := 0
	for range 20000 {
		l := someTokens(r, r.Intn(9))
		checkPrint(t, l)
		if wantCheck(l) == api.OK {
			right++
		}
	}
	if right < 2000 {
		t.Errorf("%d lists may be", right)
	}
}

// R3: what is handed in is not changed, the room behind its end neither.
func TestHandedIn(t *testing.T) {
	room := []api.Token{at(word("a"), 3), at(end, 2), at(sign("+"), 1), at(semi, 0), at(num("9"), 7), at(text(`"x"`), 8)}
	was := slices.Clone(room)
	for n := range len(room) + 1 {
		l := room[:n]
		lex.Check(l)
		lex.Print(l)
		lex.Same(l, room)
		lex.Same(room, l)
		if !slices.Equal(room, was) {
			t.Fatalf("%d tokens are changed: %v", n, room)
		}
	}
}

// R3: what is answered is new memory: none of the text's, and of no other answer's.
func TestAnswered(t *testing.T) {
	s := strings.Repeat("word 12345 \"text\" := ; ", 3) + "\n"
	first, _ := lex.Lex(s)
	second, _ := lex.Lex(s)
	was := slices.Clone(second)
	for i := range first {
		first[i] = api.Token{Kind: -1, Text: "x", At: -1}
	}
	_ = append(first, api.Token{Kind: -1})
	if third, _ := lex.Lex(s); !slices.Equal(second, was) || !slices.Equal(third, was) {
		t.Errorf("%v, %v, want %v", second, third, was)
	}
	begin := uintptr(unsafe.Pointer(unsafe.StringData(s)))
	for _, one := range second {
		if p := uintptr(unsafe.Pointer(unsafe.StringData(one.Text))); one.Text != "" && p >= begin && p < begin+uintptr(len(s)) {
			t.Errorf("%v has the text's memory", one)
		}
	}
	quoted := text(`"plain"`)
	value, _ := lex.Value(quoted)
	begin = uintptr(unsafe.Pointer(unsafe.StringData(quoted.Text)))
	if p := uintptr(unsafe.Pointer(unsafe.StringData(value))); p >= begin && p < begin+7 {
		t.Error("Value has the token's memory")
	}
}
